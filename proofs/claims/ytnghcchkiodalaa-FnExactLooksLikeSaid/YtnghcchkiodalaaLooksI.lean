/- LooksLike: the program's. -/
import Derived.Test.YtnghcchkiodalaaLooks
import Derived.Test.YtnghcchkiodalaaOwn
namespace Go.Proofs.Ytnghcchkiodalaa
open Go.RowKit
theorem infoFn : (Try.prog.info? 68).map (fun i => (i.zero, i.size, i.bytes)) = some (some .nilFunc, 1, 8) := by kernel_rfl
/-- An append that finds no room. -/
theorem wpList_append_fresh {P : Program} (w : World) {ops : Array Oper} {rest : List Oper} {o : Oper} {a : Act} {Q : Exit → Act → World → Prop} (hgd : o.guard = none) (s x : Operand) (t : TypeId)
    (ho : o.op = .call { callee := .builtin .append, args := #[s, x], argTypes := #[t, t] })
    (e : TypeId) (i : TypeInfo) (z : Value) (size bytes : Nat) (ht : P.underlying t = some (.slice e)) (hi : P.info? e = some i) (hz : i.zero = some z) (hsize : i.size = size) (hby : i.bytes = bytes)
    (b : Addr) (n cap : Nat) (olds : List Value) (hs : a.eval s = .slice (some b) n cap) (hlo : olds.length = n * size) (holds : ∀ j v, olds[j]? = some v → w.cell? (b.add j) = some v)
    (ad : Addr) (m c : Nat) (news : List Value) (hx : a.eval x = .slice (some ad) m c) (hl : news.length = m * size) (hnews : ∀ j u, news[j]? = some u → w.cell? (ad.add j) = some u)
    (hg : cap < n + m) (h63 : ((n + m : Nat) : Int) ≤ 9223372036854775807) (hb : (n + m) * bytes ≤ 140737488355328)
    (h : ∀ C w', Grown w w' → (∀ j u, (olds ++ news)[j]? = some u → w'.cell? ⟨w.heap.size, j, none⟩ = some u) → wpList P ops Q rest (a.put o.dst (.slice (some ⟨w.heap.size, 0, none⟩) (n + m) C)) w') : wpList P ops Q (o :: rest) a w := by
  subst hsize hby
  have hr := run_append_grow (P := P) w t o.type e i z ht hi hz b n cap olds hlo holds ad m c news hl hnews hg h63 (growslice_fits hg hb)
  refine wpList_plain hgd fun _ hK => ?_
  unfold Oper.wp execOp
  simp only [ho, resolve, invoke, builtin, Sem.run_bind, Sem.run_pure, Result.andThen_ok, List.map_toArray, List.map_cons, List.map_nil, hs, hx, hr]
  refine hK _ _ (h _ _ (((Grown.refl w).drew).alloc _ _) fun j u hu => ?_)
  rw [cell_of_row _ w.heap.size j _ _ _ (heap_alloc_new w.drew _)]
  have hj : j < (olds ++ news).length := (List.getElem?_eq_some_iff.1 hu).1
  simp only [List.append_toArray]
  rw [Array.getElem?_append_left (by simpa using hj)]
  simpa using hu
theorem one_at (w : World) (v : Value) (t : TypeId) : ∀ j u, [v][j]? = some u → (w.alloc (.cells #[v] t)).cell? ((⟨w.heap.size, 0, none⟩ : Addr).add j) = some u := by
  intro j u h
  match j with
  | 0 =>
    simp only [List.getElem?_cons_zero, Option.some.injEq] at h
    subst h
    exact cell_of_row _ w.heap.size 0 _ _ _ (heap_alloc_new w _)
  | j + 1 => simp at h
theorem one_at' (w : World) (v0 v : Value) (t : TypeId) : ∀ j u, [v][j]? = some u → ((w.alloc (.cells #[v0] t)).alloc (.cells #[v] t)).cell? ((⟨w.heap.size + 1, 0, none⟩ : Addr).add j) = some u := by
  have h := one_at (w.alloc (.cells #[v0] t)) v t
  rw [World.size_alloc] at h
  exact h
theorem olds_one (w : World) (v v' : Value) (t : TypeId) : ∀ j u, [v][j]? = some u → ((w.alloc (.cells #[v] t)).alloc (.cells #[v'] t)).cell? ((⟨w.heap.size, 0, none⟩ : Addr).add j) = some u := by
  intro j u h
  match j with
  | 0 =>
    simp only [List.getElem?_cons_zero, Option.some.injEq] at h
    subst h
    exact cell_grown (b := w.heap.size) (o := 0) ((Grown.refl _).alloc _ _) (cell_of_row _ w.heap.size 0 _ _ _ (heap_alloc_new w _))
  | j + 1 => simp at h
@[local go_sem ↓] theorem load_flag2 (ρ : Operand → Value) (o : Oper) (w : World) (ho : loadsOf 26 o = true) (h : (rowOf w (ρ (loadsFrom o)) 24).isSome = true) :
    (execOp ρ o).run Try.prog w = .ok (.value (.agg ((rowOf w (ρ (loadsFrom o)) 24).getD #[]))) w := run_execOp_rowOf Try.underlying26 (by kernel_rfl) ρ o w ho h
attribute [local go_sem] rowOf_drew loadsOf loadsFrom
set_option maxHeartbeats 8000000 in
set_option maxRecDepth 100000 in
theorem impl_LooksLike_any (xs : List Int) (lx : xs.length = 24) (hx : Bytes xs) (ys : List Int) (ly : ys.length = 24) (hy : Bytes ys) (t : Bool) (w : World) :
    Calls Try.prog 20 #[.agg (byteCells xs), .agg (byteCells ys), .bool t] w fun e w' => e = .returned (.tuple #[.bool (lookV xs ys t), .int .i64 (farC xs ys)]) ∧ Grown w w' := by
  have LX := hid lx
  have LY := hid ly
  have BX := hid hx
  have BY := hid hy
  clear lx ly hx hy
  have b0 : Hid (((w.alloc (.cells (byteCells xs) 26)).alloc (.cells (byteCells ys) 26)).heap[w.heap.size]? = some (.cells (byteCells xs) 26 (0, 0))) := hid (heap_kept (heap_new rfl))
  have b1 : Hid (((w.alloc (.cells (byteCells xs) 26)).alloc (.cells (byteCells ys) 26)).heap[w.heap.size + 1]? = some (.cells (byteCells ys) 26 (0, 0))) := hid (heap_new (by simp))
  have gr : Hid (Grown w ((w.alloc (.cells (byteCells xs) 26)).alloc (.cells (byteCells ys) 26))) := hid (((Grown.refl w).alloc _ _).alloc _ _)
  cases ho : okB xs
  · obtain ⟨e0, e2⟩ := far_no (xs := xs) (ys := ys) (by rw [ho]; rfl)
    rw [look_no (by rw [ho]; rfl), e2]
    clear e0 e2
    go_enter Try.func20, Try.ntmps20
    go_wp2_with (refine wpList_load_bytes rfl 26 _ rfl _ rfl _ xs _ 24 b0.out Try.underlying26 (by kernel_rfl) LX.out ?_)
    refine (impl_ValidFlag_any xs LX.out BX.out _).mono ?_
    rintro e w1 ⟨rfl, g⟩
    replace gr := hid (Grown_trans gr.out g)
    clear g
    go_wp2_with fail
    go_ret2
    exact ⟨rfl, gr.out⟩
  · cases hp : okB ys
    · obtain ⟨e0, e2⟩ := far_no (xs := xs) (ys := ys) (by rw [ho, hp]; rfl)
      rw [look_no (by rw [ho, hp]; rfl), e2]
      clear e0 e2
      go_enter Try.func20, Try.ntmps20
      go_wp2_with (refine wpList_load_bytes rfl 26 _ rfl _ rfl _ xs _ 24 b0.out Try.underlying26 (by kernel_rfl) LX.out ?_)
      refine (impl_ValidFlag_any xs LX.out BX.out _).mono ?_
      rintro e w1 ⟨rfl, g⟩
      replace b1 := hid (heap_grown g b1.out)
      replace gr := hid (Grown_trans gr.out g)
      clear g
      go_wp2_with (refine wpList_load_bytes rfl 26 _ rfl _ rfl _ ys _ 24 b1.out Try.underlying26 (by kernel_rfl) LY.out ?_)
      refine (impl_ValidFlag_any ys LY.out BY.out _).mono ?_
      rintro e w2 ⟨rfl, g⟩
      replace gr := hid (Grown_trans gr.out g)
      clear g
      go_wp2_with fail
      go_ret2
      exact ⟨rfl, gr.out⟩
    · obtain ⟨e1, e2⟩ := far_yes (xs := xs) (ys := ys) ho hp
      rw [look_yes ho hp, e2]
      have OX := hid ho
      have OY := hid hp
      have LM := hid (mirL_length xs)
      have OM := hid (mirL_ok LX.out ho)
      have BM := hid (mirL_bytes BX.out)
      clear e1 e2
      cases t
      · -- turned: false
        have HA := hid (show alikeV xs ys false = (decide (far xs ys = 0) || (false && decide (far (mirL xs) ys = 0))) from rfl)
        go_enter Try.func20, Try.ntmps20
        go_wp2_with (refine wpList_load_bytes rfl 26 _ rfl _ rfl _ xs _ 24 b0.out Try.underlying26 (by kernel_rfl) LX.out ?_)
        refine (impl_ValidFlag_any xs LX.out BX.out _).mono ?_
        rintro e w1 ⟨rfl, g⟩
        replace b0 := hid (heap_grown g b0.out)
        replace b1 := hid (heap_grown g b1.out)
        replace gr := hid (Grown_trans gr.out g)
        clear g
        go_wp2_with (refine wpList_load_bytes rfl 26 _ rfl _ rfl _ ys _ 24 b1.out Try.underlying26 (by kernel_rfl) LY.out ?_)
        refine (impl_ValidFlag_any ys LY.out BY.out _).mono ?_
        rintro e w2 ⟨rfl, g⟩
        replace b0 := hid (heap_grown g b0.out)
        replace b1 := hid (heap_grown g b1.out)
        replace gr := hid (Grown_trans gr.out g)
        clear g
        have gv : Grown w2 (w2.alloc (.cells #[.func (.func 52) #[] #[]] 68)) := (Grown.refl w2).alloc _ _
        have cb := cell_of_row (w2.alloc (.cells #[.func (.func 52) #[] #[]] 68)) w2.heap.size 0 _ _ _ (heap_alloc_new w2 _)
        simp only [List.getElem?_toArray, List.getElem?_cons_zero] at cb
        go_wp2_with fail
        obtain ⟨w3, hw3⟩ : ∃ w3, w3 = w2.alloc (.cells #[.func (.func 52) #[] #[]] 68) := ⟨_, rfl⟩
        rw [← hw3] at gv cb ⊢
        have C0 := hid cb
        replace b0 := hid (heap_grown gv b0.out)
        replace b1 := hid (heap_grown gv b1.out)
        have GW := hid (Grown_trans gr.out gv)
        clear gv cb gr hw3
        generalize w2.heap.size = z at *
        go_loopw [26] (fun i wr => ∃ k : Nat, k ≤ 1 ∧ i = .int .i64 k ∧ Hid (Grown w3 wr) ∧ Hid ((1 ≤ k → ¬ far xs ys = 0) ∧ (2 ≤ k → ¬ far (mirL xs) ys = 0))) (fun i _ => 1 - (intOf i).toNat)
        case atStart => exact ⟨0, by omega, rfl, hid (Grown.refl _), hid ⟨fun h => by omega, fun h => by omega⟩⟩
        case round =>
          obtain ⟨k, hk, rfl, GR, HP⟩ := hrel
          obtain rfl | rfl : k = 0 ∨ k = 1 := by omega
          · skip
            have hc := cell_grown GR.out C0.out
            have q0 : rowOf wr (.pointer (some ⟨w.heap.size, 0, none⟩)) 24 = some (byteCells xs) := rowOf_block (heap_grown GR.out b0.out) (by rw [byteCells_size]; exact LX.out)
            have q1 : rowOf wr (.pointer (some ⟨w.heap.size + 1, 0, none⟩)) 24 = some (byteCells ys) := rowOf_block (heap_grown GR.out b1.out) (by rw [byteCells_size]; exact LY.out)
            have g0 : Grown w3 wr := GR.out
            have heq := run_eql_bytes (P := Try.prog) (t := 23) (e := 5) Try.underlying23 Try.underlying5 (by kernel_rfl) (blurL xs) (blurL ys) (blurL_length _) (blurL_length _)
            have hgd : Try.prog.eqGuardType Try.prog.depth 23 = false := by kernel_rfl
            rw [same_diff] at heq
            have hff : diffTo (blurL xs) (blurL ys) 6 = far xs ys := rfl
            rw [hff] at heq
            clear hff GR
            by_cases hd : far xs ys = 0
            · rw [decide_eq_true hd] at heq
              have HR := hid (show alikeV xs ys false = true by rw [HA.out]; rw [decide_eq_true hd, Bool.true_or])
              clear hd
              go_wp2_with fail
              go_region_with (first | ((with_reducible refine (itself_any xs LX.out _).mono ?_); rintro e Va ⟨rfl, ga⟩; have gra : Grown w3 Va := (by first | exact Grown_trans (by assumption) ga | exact Grown_trans (Grown.drew (by assumption)) ga); have pa := rowOf_grown ga (by assumption : rowOf _ (.pointer (some ⟨w.heap.size, 0, none⟩)) 24 = some (byteCells xs)); have oa := rowOf_grown ga (by assumption : rowOf _ (.pointer (some ⟨w.heap.size + 1, 0, none⟩)) 24 = some (byteCells ys))) | ((with_reducible refine (blurred_any xs LX.out BX.out OX.out _).mono ?_); rintro e Vb ⟨rfl, gb⟩; have grb : Grown w3 Vb := (by first | exact Grown_trans (by assumption) gb | exact Grown_trans (Grown.drew (by assumption)) gb); have pb := rowOf_grown gb (by assumption : rowOf _ (.pointer (some ⟨w.heap.size, 0, none⟩)) 24 = some (byteCells xs)); have ob := rowOf_grown gb (by assumption : rowOf _ (.pointer (some ⟨w.heap.size + 1, 0, none⟩)) 24 = some (byteCells ys))) | ((with_reducible refine (blurred_any ys LY.out BY.out OY.out _).mono ?_); rintro e Vc ⟨rfl, gc⟩; have grc : Grown w3 Vc := (by first | exact Grown_trans (by assumption) gc | exact Grown_trans (Grown.drew (by assumption)) gc); have pc := rowOf_grown gc (by assumption : rowOf _ (.pointer (some ⟨w.heap.size, 0, none⟩)) 24 = some (byteCells xs)); have oc := rowOf_grown gc (by assumption : rowOf _ (.pointer (some ⟨w.heap.size + 1, 0, none⟩)) 24 = some (byteCells ys))))
              all_goals
                go_wp2_with fail
                go_ret2
                exact ⟨by rw [HR.out]; rfl, Grown_trans GW.out (by first | assumption | exact Grown.drew (by assumption))⟩
            · rw [decide_eq_false hd] at heq
              have HD := hid hd
              clear hd
              go_wp2_with fail
              go_region_with (first | ((with_reducible refine (itself_any xs LX.out _).mono ?_); rintro e Va ⟨rfl, ga⟩; have gra : Grown w3 Va := (by first | exact Grown_trans (by assumption) ga | exact Grown_trans (Grown.drew (by assumption)) ga); have pa := rowOf_grown ga (by assumption : rowOf _ (.pointer (some ⟨w.heap.size, 0, none⟩)) 24 = some (byteCells xs)); have oa := rowOf_grown ga (by assumption : rowOf _ (.pointer (some ⟨w.heap.size + 1, 0, none⟩)) 24 = some (byteCells ys))) | ((with_reducible refine (blurred_any xs LX.out BX.out OX.out _).mono ?_); rintro e Vb ⟨rfl, gb⟩; have grb : Grown w3 Vb := (by first | exact Grown_trans (by assumption) gb | exact Grown_trans (Grown.drew (by assumption)) gb); have pb := rowOf_grown gb (by assumption : rowOf _ (.pointer (some ⟨w.heap.size, 0, none⟩)) 24 = some (byteCells xs)); have ob := rowOf_grown gb (by assumption : rowOf _ (.pointer (some ⟨w.heap.size + 1, 0, none⟩)) 24 = some (byteCells ys))) | ((with_reducible refine (blurred_any ys LY.out BY.out OY.out _).mono ?_); rintro e Vc ⟨rfl, gc⟩; have grc : Grown w3 Vc := (by first | exact Grown_trans (by assumption) gc | exact Grown_trans (Grown.drew (by assumption)) gc); have pc := rowOf_grown gc (by assumption : rowOf _ (.pointer (some ⟨w.heap.size, 0, none⟩)) 24 = some (byteCells xs)); have oc := rowOf_grown gc (by assumption : rowOf _ (.pointer (some ⟨w.heap.size + 1, 0, none⟩)) 24 = some (byteCells ys))))
              all_goals
                go_wp2_with fail
                go_roundw
                case rel => exact ⟨1, by omega, rfl, hid (by first | assumption | exact Grown.drew (by assumption)), hid ⟨fun _ => HD.out, fun h => by omega⟩⟩
                case measure => simp [intOf]
          · have HR := hid (show alikeV xs ys false = false by rw [HA.out, decide_eq_false (HP.out.1 (by omega))]; rfl)
            have G := hid (Grown_trans GW.out GR.out)
            clear GR HP HA
            go_wp2_with fail
            go_ret2
            exact ⟨by rw [HR.out]; rfl, G.out⟩
      · -- turned: true
        have HA := hid (show alikeV xs ys true = (decide (far xs ys = 0) || (true && decide (far (mirL xs) ys = 0))) from rfl)
        go_enter Try.func20, Try.ntmps20
        go_wp2_with (refine wpList_load_bytes rfl 26 _ rfl _ rfl _ xs _ 24 b0.out Try.underlying26 (by kernel_rfl) LX.out ?_)
        refine (impl_ValidFlag_any xs LX.out BX.out _).mono ?_
        rintro e w1 ⟨rfl, g⟩
        replace b0 := hid (heap_grown g b0.out)
        replace b1 := hid (heap_grown g b1.out)
        replace gr := hid (Grown_trans gr.out g)
        clear g
        go_wp2_with (refine wpList_load_bytes rfl 26 _ rfl _ rfl _ ys _ 24 b1.out Try.underlying26 (by kernel_rfl) LY.out ?_)
        refine (impl_ValidFlag_any ys LY.out BY.out _).mono ?_
        rintro e w2 ⟨rfl, g⟩
        replace b0 := hid (heap_grown g b0.out)
        replace b1 := hid (heap_grown g b1.out)
        replace gr := hid (Grown_trans gr.out g)
        clear g
        have lz := hid (lt_of_heap b1.out)
        obtain ⟨i0, hi, hz0, hz1, hz2⟩ := info_parts infoFn
        have HOL := hid (olds_one w2 (.func (.func 52) #[] #[]) (.func (.func 53) #[] #[]) 68)
        go_wp2_with (at_builtin; refine wpList_append_fresh _ rfl _ _ 70 rfl 68 i0 .nilFunc 1 8 Try.underlying70 hi hz0 hz1 hz2 ⟨w2.heap.size, 0, none⟩ 1 1 [.func (.func 52) #[] #[]] rfl rfl HOL.out ⟨w2.heap.size + 1, 0, none⟩ 1 1 [.func (.func 53) #[] #[]] rfl rfl (one_at' w2 _ _ _) (by decide) (by omega) (by omega) ?_; intro CC w3 gv0 hcs)
        have gv : Grown w2 w3 := Grown_trans (((Grown.refl w2).alloc _ _).alloc _ _) gv0
        have cb0 := hcs 0 _ rfl
        have cb1 := hcs 1 _ rfl
        simp only [World.size_alloc] at cb0 cb1
        have C0 := hid cb0
        have C1 := hid cb1
        replace b0 := hid (heap_grown gv b0.out)
        replace b1 := hid (heap_grown gv b1.out)
        have GW := hid (Grown_trans gr.out gv)
        clear gv gv0 cb0 cb1 hcs gr HOL
        go_wp2_with fail
        go_loopw [26] (fun i wr => ∃ k : Nat, k ≤ 2 ∧ i = .int .i64 k ∧ Hid (Grown w3 wr) ∧ Hid ((1 ≤ k → ¬ far xs ys = 0) ∧ (2 ≤ k → ¬ far (mirL xs) ys = 0))) (fun i _ => 2 - (intOf i).toNat)
        case atStart => exact ⟨0, by omega, rfl, hid (Grown.refl _), hid ⟨fun h => by omega, fun h => by omega⟩⟩
        case round =>
          obtain ⟨k, hk, rfl, GR, HP⟩ := hrel
          obtain rfl | rfl | rfl : k = 0 ∨ k = 1 ∨ k = 2 := by omega
          · skip
            have hc := cell_grown GR.out C0.out
            have q0 : rowOf wr (.pointer (some ⟨w.heap.size, 0, none⟩)) 24 = some (byteCells xs) := rowOf_block (heap_grown GR.out b0.out) (by rw [byteCells_size]; exact LX.out)
            have q1 : rowOf wr (.pointer (some ⟨w.heap.size + 1, 0, none⟩)) 24 = some (byteCells ys) := rowOf_block (heap_grown GR.out b1.out) (by rw [byteCells_size]; exact LY.out)
            have g0 : Grown w3 wr := GR.out
            have heq := run_eql_bytes (P := Try.prog) (t := 23) (e := 5) Try.underlying23 Try.underlying5 (by kernel_rfl) (blurL xs) (blurL ys) (blurL_length _) (blurL_length _)
            have hgd : Try.prog.eqGuardType Try.prog.depth 23 = false := by kernel_rfl
            rw [same_diff] at heq
            have hff : diffTo (blurL xs) (blurL ys) 6 = far xs ys := rfl
            rw [hff] at heq
            clear hff GR
            by_cases hd : far xs ys = 0
            · rw [decide_eq_true hd] at heq
              have HR := hid (show alikeV xs ys true = true by rw [HA.out]; rw [decide_eq_true hd, Bool.true_or])
              clear hd
              go_wp2_with fail
              go_region_with (first | ((with_reducible refine (itself_any xs LX.out _).mono ?_); rintro e Va ⟨rfl, ga⟩; have gra : Grown w3 Va := (by first | exact Grown_trans (by assumption) ga | exact Grown_trans (Grown.drew (by assumption)) ga); have pa := rowOf_grown ga (by assumption : rowOf _ (.pointer (some ⟨w.heap.size, 0, none⟩)) 24 = some (byteCells xs)); have oa := rowOf_grown ga (by assumption : rowOf _ (.pointer (some ⟨w.heap.size + 1, 0, none⟩)) 24 = some (byteCells ys))) | ((with_reducible refine (blurred_any xs LX.out BX.out OX.out _).mono ?_); rintro e Vb ⟨rfl, gb⟩; have grb : Grown w3 Vb := (by first | exact Grown_trans (by assumption) gb | exact Grown_trans (Grown.drew (by assumption)) gb); have pb := rowOf_grown gb (by assumption : rowOf _ (.pointer (some ⟨w.heap.size, 0, none⟩)) 24 = some (byteCells xs)); have ob := rowOf_grown gb (by assumption : rowOf _ (.pointer (some ⟨w.heap.size + 1, 0, none⟩)) 24 = some (byteCells ys))) | ((with_reducible refine (blurred_any ys LY.out BY.out OY.out _).mono ?_); rintro e Vc ⟨rfl, gc⟩; have grc : Grown w3 Vc := (by first | exact Grown_trans (by assumption) gc | exact Grown_trans (Grown.drew (by assumption)) gc); have pc := rowOf_grown gc (by assumption : rowOf _ (.pointer (some ⟨w.heap.size, 0, none⟩)) 24 = some (byteCells xs)); have oc := rowOf_grown gc (by assumption : rowOf _ (.pointer (some ⟨w.heap.size + 1, 0, none⟩)) 24 = some (byteCells ys))))
              all_goals
                go_wp2_with fail
                go_ret2
                exact ⟨by rw [HR.out]; rfl, Grown_trans GW.out (by first | assumption | exact Grown.drew (by assumption))⟩
            · rw [decide_eq_false hd] at heq
              have HD := hid hd
              clear hd
              go_wp2_with fail
              go_region_with (first | ((with_reducible refine (itself_any xs LX.out _).mono ?_); rintro e Va ⟨rfl, ga⟩; have gra : Grown w3 Va := (by first | exact Grown_trans (by assumption) ga | exact Grown_trans (Grown.drew (by assumption)) ga); have pa := rowOf_grown ga (by assumption : rowOf _ (.pointer (some ⟨w.heap.size, 0, none⟩)) 24 = some (byteCells xs)); have oa := rowOf_grown ga (by assumption : rowOf _ (.pointer (some ⟨w.heap.size + 1, 0, none⟩)) 24 = some (byteCells ys))) | ((with_reducible refine (blurred_any xs LX.out BX.out OX.out _).mono ?_); rintro e Vb ⟨rfl, gb⟩; have grb : Grown w3 Vb := (by first | exact Grown_trans (by assumption) gb | exact Grown_trans (Grown.drew (by assumption)) gb); have pb := rowOf_grown gb (by assumption : rowOf _ (.pointer (some ⟨w.heap.size, 0, none⟩)) 24 = some (byteCells xs)); have ob := rowOf_grown gb (by assumption : rowOf _ (.pointer (some ⟨w.heap.size + 1, 0, none⟩)) 24 = some (byteCells ys))) | ((with_reducible refine (blurred_any ys LY.out BY.out OY.out _).mono ?_); rintro e Vc ⟨rfl, gc⟩; have grc : Grown w3 Vc := (by first | exact Grown_trans (by assumption) gc | exact Grown_trans (Grown.drew (by assumption)) gc); have pc := rowOf_grown gc (by assumption : rowOf _ (.pointer (some ⟨w.heap.size, 0, none⟩)) 24 = some (byteCells xs)); have oc := rowOf_grown gc (by assumption : rowOf _ (.pointer (some ⟨w.heap.size + 1, 0, none⟩)) 24 = some (byteCells ys))))
              all_goals
                go_wp2_with fail
                go_roundw
                case rel => exact ⟨1, by omega, rfl, hid (by first | assumption | exact Grown.drew (by assumption)), hid ⟨fun _ => HD.out, fun h => by omega⟩⟩
                case measure => simp [intOf]
          · skip
            have hc := cell_grown GR.out C1.out
            have q0 : rowOf wr (.pointer (some ⟨w.heap.size, 0, none⟩)) 24 = some (byteCells xs) := rowOf_block (heap_grown GR.out b0.out) (by rw [byteCells_size]; exact LX.out)
            have q1 : rowOf wr (.pointer (some ⟨w.heap.size + 1, 0, none⟩)) 24 = some (byteCells ys) := rowOf_block (heap_grown GR.out b1.out) (by rw [byteCells_size]; exact LY.out)
            have g0 : Grown w3 wr := GR.out
            have heq := run_eql_bytes (P := Try.prog) (t := 23) (e := 5) Try.underlying23 Try.underlying5 (by kernel_rfl) (blurL (mirL xs)) (blurL ys) (blurL_length _) (blurL_length _)
            have hgd : Try.prog.eqGuardType Try.prog.depth 23 = false := by kernel_rfl
            rw [same_diff] at heq
            have hff : diffTo (blurL (mirL xs)) (blurL ys) 6 = far (mirL xs) ys := rfl
            rw [hff] at heq
            clear hff GR
            by_cases hd : far (mirL xs) ys = 0
            · rw [decide_eq_true hd] at heq
              have HR := hid (show alikeV xs ys true = true by rw [HA.out]; rw [decide_eq_true hd, decide_eq_false (HP.out.1 (by omega))]; rfl)
              clear hd
              go_wp2_with fail
              go_region_with (first | ((with_reducible refine (mirrored_any xs LX.out _).mono ?_); rintro e Va ⟨rfl, ga⟩; have gra : Grown w3 Va := (by first | exact Grown_trans (by assumption) ga | exact Grown_trans (Grown.drew (by assumption)) ga); have pa := rowOf_grown ga (by assumption : rowOf _ (.pointer (some ⟨w.heap.size, 0, none⟩)) 24 = some (byteCells xs)); have oa := rowOf_grown ga (by assumption : rowOf _ (.pointer (some ⟨w.heap.size + 1, 0, none⟩)) 24 = some (byteCells ys))) | ((with_reducible refine (blurred_any (mirL xs) LM.out BM.out OM.out _).mono ?_); rintro e Vb ⟨rfl, gb⟩; have grb : Grown w3 Vb := (by first | exact Grown_trans (by assumption) gb | exact Grown_trans (Grown.drew (by assumption)) gb); have pb := rowOf_grown gb (by assumption : rowOf _ (.pointer (some ⟨w.heap.size, 0, none⟩)) 24 = some (byteCells xs)); have ob := rowOf_grown gb (by assumption : rowOf _ (.pointer (some ⟨w.heap.size + 1, 0, none⟩)) 24 = some (byteCells ys))) | ((with_reducible refine (blurred_any ys LY.out BY.out OY.out _).mono ?_); rintro e Vc ⟨rfl, gc⟩; have grc : Grown w3 Vc := (by first | exact Grown_trans (by assumption) gc | exact Grown_trans (Grown.drew (by assumption)) gc); have pc := rowOf_grown gc (by assumption : rowOf _ (.pointer (some ⟨w.heap.size, 0, none⟩)) 24 = some (byteCells xs)); have oc := rowOf_grown gc (by assumption : rowOf _ (.pointer (some ⟨w.heap.size + 1, 0, none⟩)) 24 = some (byteCells ys))))
              all_goals
                go_wp2_with fail
                go_ret2
                exact ⟨by rw [HR.out]; rfl, Grown_trans GW.out (by first | assumption | exact Grown.drew (by assumption))⟩
            · rw [decide_eq_false hd] at heq
              have HD := hid hd
              clear hd
              go_wp2_with fail
              go_region_with (first | ((with_reducible refine (mirrored_any xs LX.out _).mono ?_); rintro e Va ⟨rfl, ga⟩; have gra : Grown w3 Va := (by first | exact Grown_trans (by assumption) ga | exact Grown_trans (Grown.drew (by assumption)) ga); have pa := rowOf_grown ga (by assumption : rowOf _ (.pointer (some ⟨w.heap.size, 0, none⟩)) 24 = some (byteCells xs)); have oa := rowOf_grown ga (by assumption : rowOf _ (.pointer (some ⟨w.heap.size + 1, 0, none⟩)) 24 = some (byteCells ys))) | ((with_reducible refine (blurred_any (mirL xs) LM.out BM.out OM.out _).mono ?_); rintro e Vb ⟨rfl, gb⟩; have grb : Grown w3 Vb := (by first | exact Grown_trans (by assumption) gb | exact Grown_trans (Grown.drew (by assumption)) gb); have pb := rowOf_grown gb (by assumption : rowOf _ (.pointer (some ⟨w.heap.size, 0, none⟩)) 24 = some (byteCells xs)); have ob := rowOf_grown gb (by assumption : rowOf _ (.pointer (some ⟨w.heap.size + 1, 0, none⟩)) 24 = some (byteCells ys))) | ((with_reducible refine (blurred_any ys LY.out BY.out OY.out _).mono ?_); rintro e Vc ⟨rfl, gc⟩; have grc : Grown w3 Vc := (by first | exact Grown_trans (by assumption) gc | exact Grown_trans (Grown.drew (by assumption)) gc); have pc := rowOf_grown gc (by assumption : rowOf _ (.pointer (some ⟨w.heap.size, 0, none⟩)) 24 = some (byteCells xs)); have oc := rowOf_grown gc (by assumption : rowOf _ (.pointer (some ⟨w.heap.size + 1, 0, none⟩)) 24 = some (byteCells ys))))
              all_goals
                go_wp2_with fail
                go_roundw
                case rel => exact ⟨2, by omega, rfl, hid (by first | assumption | exact Grown.drew (by assumption)), hid ⟨fun _ => HP.out.1 (by omega), fun _ => HD.out⟩⟩
                case measure => simp [intOf]
          · have HR := hid (show alikeV xs ys true = false by rw [HA.out, decide_eq_false (HP.out.1 (by omega))]; rw [decide_eq_false (HP.out.2 (by omega))]; rfl)
            have G := hid (Grown_trans GW.out GR.out)
            clear GR HP HA
            go_wp2_with fail
            go_ret2
            exact ⟨by rw [HR.out]; rfl, G.out⟩
end Go.Proofs.Ytnghcchkiodalaa
