/- The meanings of a book with their ranks, one by one: the program's iterator. -/
import Derived.Test.YtfaiehjomcgjgaaDoorMeanI
import Derived.Test.YtfaiehjomcgjgaaDoorStillIn
namespace Go.Proofs.YtfaiehjomcgjgaaDoor
set_option linter.unusedVariables false
open Go.RowKit
attribute [local go_sem] Oper.semAt_some
set_option maxHeartbeats 8000000 in
set_option maxRecDepth 100000 in
theorem meanings_iter (K L B : Nat) (k1 : 1 ≤ K) (k2 : K ≤ 10) (l2 : L ≤ 3) (b2 : B ≤ 4) (sb : Nat) (Kp : World → Prop) (W : World) (hkp : ∀ V, Kp V → V.heap[sb]? = some (.cells (schC K L B) 67 (0, 0))) (hsb : sb < W.heap.size)
    (hW : W.heap[sb]? = some (.cells (schC K L B) 67 (0, 0))) :
    IterG Tryd.prog 89 #[.pointer (some ⟨sb, 0, none⟩)] (fun x : YldG => #[.int .i64 (x.1 : Int), x.2.1]) (OkG W.heap.size) (NxG (bookL K B L)) (SG (bookL K B L)) (SpG (bookL K B L)) Kp W := by
  intro l J Jx hJK h0 hY
  have HJK := hid hJK
  have H0 := hid h0
  have HY := hid hY
  have HKP := hid hkp
  have HW := hid hW
  clear hJK h0 hY hkp
  refine (callsIn_wide (n := 8)).2 ((callsIn_wide (n := 9)).1 (callsIn_of_wp_marks Tryd.func89 rfl trivial (wpIn_wide.2 ?_) rfl))
  simp only [Tryd.ntmps89, List.size_toArray, List.length_cons, List.length_nil, Nat.reduceAdd, Nat.reduceSub, Array.replicate_succ, Array.replicate_zero, List.push_toArray, List.append_toArray, List.nil_append, List.cons_append]
  have p1 : W.cell? ⟨sb, 1, none⟩ = some (.int .i8 (L : Int)) := by rw [cell_of_row _ _ 1 _ _ _ hW]; rfl
  have p1' : ((W.alloc (.cells #[.func (.yield l) #[] #[]] 121)).alloc (.cells #[.int .i64 0] 2)).cell? ⟨sb, 1, none⟩ = some (.int .i8 (L : Int)) := (((Gr.refl W).alloc _).alloc _).cell p1
  go_wp2_with fail
  refine wp_loop (fun a' w' => ∃ (j : Nat) (O : Nat → Prop) (bs : List Nat) (pre : List YldG) (u4 u11 u12 u13 u14 u15 u16 u17 u34 : Value), j ≤ L ∧ Hid (MI J W.heap.size W.heap.size (W.heap.size + 1) l K B j O bs pre w') ∧ a' = { tmps := #[.func (.yield l) #[] #[], .pointer (some ⟨sb, 0, none⟩), .pointer (some ⟨W.heap.size, 0, none⟩), .pointer (some ⟨W.heap.size + 1, 0, none⟩), u4, undef, undef, undef, .pointer (some ⟨sb, 1, none⟩), .int .i8 (L : Int), .int .i8 (j : Int), u11, u12, u13, u14, u15, u16, u17, undef, undef, undef, undef, undef, undef, undef, undef, undef, undef, undef, undef, undef, undef, undef, undef, u34], defers := marks bs }) (fun a' _ => L - (intOf (a'.tmps.getD 10 undef)).toNat) ?start ?rnd
  case start =>
    refine ⟨0, fun k => k = W.heap.size ∨ k = W.heap.size + 1, [], [], undef, undef, undef, undef, undef, undef, undef, undef, undef, Nat.zero_le _, hid ?_, rfl⟩
    generalize hW3 : World.alloc _ _ = W3
    have hz : W3.heap.size = W.heap.size + 2 := by rw [← hW3]; simp
    refine ⟨⟨_, W3, H0.out (fun k => k = W.heap.size ∨ k = W.heap.size + 1) W3 (fun k hk => by rcases hk with rfl | rfl <;> omega) (by rw [← hW3]; exact ((Gr.refl W).alloc _).alloc _), fun k h => h, fun k h => .inl h, Chg.refl _ _⟩, fun k hk => by rcases hk with rfl | rfl <;> omega, .inl rfl, .inr rfl, fun b hb => by simp at hb, List.nodup_nil, ?_, ?_, rfl⟩
    · rw [← hW3]; exact heap_kept (heap_new rfl)
    · rw [← hW3]; exact heap_new (by simp)
  case rnd =>
    clear p1 p1'
    rintro a' wr ⟨j, O, bs, pre, u4, u11, u12, u13, u14, u15, u16, u17, u34, hj, hMI, rfl⟩
    have hyr0 := hMI.out.yc
    by_cases hlt : j < L
    · obtain ⟨own, A, hJ, hc1, hc2, hchg⟩ := hMI.out.held
      have hlow := hMI.out.low
      have hown := (HJK.out _ _ _ hJ).2
      have HSB := hid (fun (own' : Nat → Prop) (A' V : World) (pre' : List YldG) (hJ' : J own' pre' A') (hc' : Chg own' A' V) => show V.heap[sb]? = some (.cells (schC K L B) 67 (0, 0)) from hc'.heap (HKP.out _ (HJK.out _ _ _ hJ').1) (fun g => by have := (HJK.out _ _ _ hJ').2 _ g; omega))
      have hsbw := HSB.out _ _ _ _ hJ hchg
      have s0 : wr.cell? ⟨sb, 0, none⟩ = some (.int .i8 (K : Int)) := by rw [cell_of_row _ _ 0 _ _ _ hsbw]; rfl
      clear hJ hc1 hc2 hown
      have ej : IntKind.i8.wrap ((j : Int) + 1) = (j : Int) + 1 := IntWalk.i8_in _ (by omega)
      go_wp2_with fail
      refine (lists_any _ _ _).mono ?_
      rintro e W2 ⟨rfl, hW2⟩
      have hz2 : Hid (W2.heap.size = wr.heap.size + 2) := hid (by rw [hW2]; simp)
      have g2 : Hid (Gr wr W2) := hid (by rw [hW2]; exact ((Gr.refl _).alloc _).alloc _)
      have b0 : Hid (W2.cell? ⟨wr.heap.size, 0, none⟩ = some (.int .i8 (K : Int))) := hid (by rw [hW2, cell_of_row _ _ 0 _ _ _ (heap_kept (heap_new rfl))]; rfl)
      have b1 : Hid (W2.cell? ⟨wr.heap.size + 1, 0, none⟩ = some (.int .i8 (((j + 1 : Nat)) : Int))) := hid (by rw [hW2, cell_of_row _ _ 0 _ _ _ (heap_new (by simp))]; rfl)
      clear hW2 s0 hsbw
      have HLT := hid hlt
      have HLOW := hid hlow
      have HBS : Hid (∀ b ∈ bs, O b) := hid (fun b hb => (hMI.out.ob b hb).1)
      have HWZ : Hid (W.heap.size + 2 ≤ wr.heap.size) := hid (by have := (hlow _ hMI.out.ork).2; omega)
      clear hlow hchg
      go_wp2_with fail
      refine wp_rangeFunc_K (lb := #[.pointer (some ⟨wr.heap.size + 1, 0, none⟩), .pointer (some ⟨wr.heap.size, 0, none⟩)]) (gf := 103) rfl (callFunc_enter Tryd.func103 (by kernel_rfl) (by kernel_rfl))
        (Kp := fun V => V.cell? ⟨wr.heap.size, 0, none⟩ = some (.int .i8 (K : Int)))
        (fun W' hb hz => lists_iter K (j + 1) k1 k2 (by omega) (by have := HLT.out; omega) (wr.heap.size + 1) wr.heap.size _ W' ((World.cell?_of_block (w := W2) (hb.block _ (by have := hz2.out; dsimp only; omega))).trans b1.out) (fun V h => h) (by have := hz2.out; omega))
        (fun A' B' h ho => ho.cell h (.inl (by have := hz2.out; dsimp only; omega)))
        (fun m B' C x hm h o => h.keep o hm) (fun _ => rfl)
        (fun n prei V => RI J W.heap.size (W.heap.size + 1) l K B O wr.heap.size bs (bookL K B j) n prei V)
        (fun c prei C => c = .ret ∧ ∃ n pre', Jx (tO O wr.heap.size n) pre' C ∧ SpG (bookL K B L) pre' ∧ W2.heap.size + 2 ≤ n ∧ ∀ b ∈ bs, C.heap[b]? = some (.deferred (some [])))
        (fun n prei V h => h.kb)
        ?init ?a1 ?assign ?body ?done ?stop
      case assign =>
        intro l' x V KK hK
        gi_wp2
        exact hK
      case init =>
        intro n V hb hn1 hn2
        exact hMI.out.begin rfl (Below.trans g2.out (Below.mono hb g2.out.size)) ((World.cell?_of_block (w := W2) (hb.block _ (by have := hz2.out; dsimp only; omega))).trans b0.out)
      case body =>
        rintro l' n prei ⟨v, m⟩ A' V hn1 hn2 hRI ho hok hnx
        have hz := hz2.out
        have hlt' := HLT.out
        have hRV := hRI.out ho (by omega) (by have := HWZ.out; omega) (by have := HWZ.out; omega) (fun b hb => by have := (HLOW.out b (HBS.out b hb)).2; omega)
        have hok' : Own .i8 22 V A'.heap.size V.heap.size v m := hok
        obtain ⟨rest, hrest⟩ := hnx
        have hm : m ∈ kindsS K (j + 1) := by rw [← hrest]; exact List.mem_append.2 (.inr List.mem_cons_self)
        have hml := (mem_kindsS.1 hm).1
        obtain ⟨g0, c0, rfl, hg0, _⟩ := hok'.row.form (by omega)
        have hcap := row_cap hok'.row
        have hrow := hok'.row
        have HHO := hid (fun V' (g : Gr V V') => CallsIn.inRound l' ((callsIn_wide (n := 6)).2 (hoist_any K L B (j + 1) m k2 (by omega) (by omega) b2 hm (some ⟨g0, 0, none⟩) m.length c0 rfl hcap V' ((row_reads hrow rfl).gr g))))
        obtain ⟨own, A, preo, hJ, hc1, hc2, hchg, hms, hrc⟩ := hRV.held
        have hsbv := HSB.out _ _ _ _ hJ hchg
        have t0 : V.cell? ⟨sb, 0, none⟩ = some (.int .i8 (K : Int)) := by rw [cell_of_row _ _ 0 _ _ _ hsbv]; rfl
        have t1 : V.cell? ⟨sb, 1, none⟩ = some (.int .i8 (L : Int)) := by rw [cell_of_row _ _ 1 _ _ _ hsbv]; rfl
        have t2 : V.cell? ⟨sb, 2, none⟩ = some (.int .i8 (B : Int)) := by rw [cell_of_row _ _ 2 _ _ _ hsbv]; rfl
        have HRV := hid hRV
        have HROW := hid hrow
        have HREST := hid hrest
        have HMS := hid hms
        have HRC := hid hrc
        have HN2 := hid (show n ≤ V.heap.size by have := ho.size; omega)
        have HNA := hid (show n ≤ g0 by omega)
        have HJA := hid (show J own preo A ∧ (∀ k, tO O wr.heap.size n k → own k ∨ A.heap.size ≤ k) ∧ Chg own A V from ⟨hJ, hc2, hchg⟩)
        clear hRV hRI ho hok hok' hrest hm hml hcap hrow hJ hc1 hc2 hchg hms hrc hsbv hg0
        gi_wp2_with fail
        refine ⟨trivial, ?_⟩
        refine (HHO.out V (Gr.refl V)).mono ?_
        rintro e V3 ⟨⟨vh, rfl⟩, gV⟩
        have HG3 := hid gV
        clear gV HHO t0 t1 t2
        cases hc : canH B m with
        | false =>
          have HR3 := hid ((HRV.out.gr HG3.out).skip (v := .slice (some ⟨g0, 0, none⟩) m.length c0) hc)
          clear hc
          gi_wp2_with fail
          exact ⟨Ins.ofBelow HG3.out HN2.out, HR3.out⟩
        | true =>
          have HC := hid hc
          clear hc
          have HSUB : Hid (∀ k, tO O wr.heap.size n k → k < V3.heap.size) := hid (fun k hk => by
            have := HG3.out.size
            have := HN2.out
            rcases hk with hk | hk
            · have := (HLOW.out k hk).2; omega
            · omega)
          have hyd : YieldAt Fence.wide 7 Tryd.prog l #[.int .i64 (preo.length : Int), .slice (some ⟨g0, 0, none⟩) m.length c0] V3 fun e C => (e = .returned (.bool true) ∧ J (tO O wr.heap.size n) (preo ++ [(preo.length, .slice (some ⟨g0, 0, none⟩) m.length c0, m)]) C ∧ Keep (tO O wr.heap.size n) V3 C) ∨ (e = .returned (.bool false) ∧ Jx (tO O wr.heap.size n) (preo ++ [(preo.length, .slice (some ⟨g0, 0, none⟩) m.length c0, m)]) C ∧ Keep (tO O wr.heap.size n) V3 C) := by
            refine HY.out own (tO O wr.heap.size n) preo (preo.length, .slice (some ⟨g0, 0, none⟩) m.length c0, m) A V3 HJA.out.1 (HJA.out.2.2.trans (Chg.ofBelow _ HG3.out)) (fun k hk => ⟨HJA.out.2.1 k hk, HSUB.out k hk⟩) ⟨g0, c0, rfl, ownsRow_gr (ownsRow_lower HROW.out (by have := HWZ.out; omega)) HG3.out, fun hk => ?_⟩ ⟨rfl, ?_⟩
            · have := HNA.out
              rcases hk with hk | hk
              · have := (HLOW.out _ hk).2; omega
              · omega
            · obtain ⟨t, ht⟩ := book_next (L := L) (j := j) (by omega) HREST.out HC.out
              exact ⟨t, by rw [HMS.out]; exact ht⟩
          obtain ⟨fn, tmps, assign, body, hyr, hR⟩ := hyd
          have HR := hid hR
          have y0 : V3.cell? ⟨W.heap.size, 0, none⟩ = some (.func (.yield l) #[] #[]) := by rw [cell_of_row _ _ 0 _ _ _ (HG3.out.heap HRV.out.yc)]; rfl
          have r0 : V3.cell? ⟨W.heap.size + 1, 0, none⟩ = some (.int .i64 (preo.length : Int)) := by rw [cell_of_row _ _ 0 _ _ _ (HG3.out.heap HRC.out)]; rfl
          have HPL : Hid ((preo.length : Int) ≤ 3000) := hid (by
            obtain ⟨t, ht⟩ := book_next (L := L) (j := j) (by omega) HREST.out HC.out
            have h1 := congrArg List.length ht
            have h2 := book_bd (B := B) k2 l2
            have h3 := msG_length preo
            rw [HMS.out] at h3
            simp only [List.length_append, List.length_cons] at h1 h3
            omega)
          clear hR
          gi_wp2_with fail
          refine (show RoundIn (Fence.wide.inRound l') _ Tryd.prog l fn tmps assign body V3 _ from roundIn_wide HR.out).mono ?_
          rintro e C (⟨rfl, hJ', hkeep⟩ | ⟨rfl, hJx, hkeep⟩)
          · have HR2 := hid (HRV.out.gr HG3.out)
            have hrc3 := HG3.out.heap HRC.out
            have hrcC := hkeep.heap hrc3 (.inl hMI.out.ork)
            have HNX := hid (HR2.out.next (v := .slice (some ⟨g0, 0, none⟩) m.length c0) (by omega) hMI.out.oy hMI.out.ork (by omega) (fun b hb => ⟨HBS.out b hb, fun e => by
              have h1 := (hMI.out.ob b hb).2
              have h2 := hMI.out.rc
              rw [e, h2] at h1
              cases h1⟩) (by have := HWZ.out; omega) HSUB.out HMS.out hrc3 HC.out hJ' hkeep)
            have r1 : C.cell? ⟨W.heap.size + 1, 0, none⟩ = some (.int .i64 (preo.length : Int)) := by rw [cell_of_row _ _ 0 _ _ _ hrcC]; rfl
            have f1 : C.frozen? ⟨W.heap.size + 1, 0, none⟩ = false := frozen_of_row _ _ _ _ _ hrcC
            have HIN := hid ((Ins.ofBelow (lo := W2.heap.size) HG3.out HN2.out).trans (hkeep.ins (lo := W2.heap.size) (hi := n) (fun k h1 h2 => .inr ⟨by omega, h2⟩)))
            have hp3 := HPL.out
            have ep : IntKind.i64.wrap ((preo.length : Int) + 1) = (preo.length : Int) + 1 := IntWalk.i64_in _ (by omega)
            clear HR2 hrc3 hrcC hJ' hkeep hp3 hyr HR y0 r0
            gi_wp2_with fail
            exact ⟨HIN.out.setCell (.inl (by have := HWZ.out; dsimp only; omega)) _, HNX.out⟩
          · have HIN := hid ((Ins.ofBelow (lo := W2.heap.size) (hi := W2.heap.size + 2) HG3.out (by have := HN2.out; omega)).trans (hkeep.ins (lo := W2.heap.size) (hi := W2.heap.size + 2) (fun k h1 h2 => .inr ⟨by omega, by omega⟩)))
            have HSPG : Hid (SpG (bookL K B L) (preo ++ [(preo.length, .slice (some ⟨g0, 0, none⟩) m.length c0, m)])) := hid (by
              obtain ⟨t, ht⟩ := book_next (L := L) (j := j) (by omega) HREST.out HC.out
              exact ⟨t, by rw [msG_snoc, HMS.out, List.append_assoc]; exact ht⟩)
            have HBB : Hid (∀ b ∈ bs, C.heap[b]? = some (.deferred (some []))) := hid (fun b hb => hkeep.heap (HG3.out.heap (HRV.out.ob b hb)) (.inl (HBS.out b hb)))
            have HJX := hid hJx
            clear hJx hkeep hyr HR y0 r0
            gi_wp2_with fail
            exact ⟨HIN.out, rfl, n, _, HJX.out, HSPG.out, hn1, HBB.out⟩
      case done =>
        intro n xs' A' V hn1 hn2 hS hI ho hd
        have hz := hz2.out
        have hRV := hI.out ho (by omega) (by have := HWZ.out; omega) (by have := HWZ.out; omega) (fun b hb => by have := (HLOW.out b (HBS.out b hb)).2; omega)
        obtain ⟨pre', hM⟩ := hRV.close hS hMI.out.oy hMI.out.ork HLOW.out (by have := HWZ.out; omega) (by have := ho.size; omega) HBS.out hMI.out.nd hd (by omega) (by omega)
        have HM := hid hM
        have hlt' := HLT.out
        clear hM hRV hI ho hd hS hn1 hn2
        go_wp2_with fail
        refine ⟨⟨j + 1, tO O wr.heap.size n, W2.heap.size :: bs, pre', ?_⟩, ?_⟩
        · (repeat apply Exists.intro)
          refine ⟨by omega, HM, ?_⟩
          rfl
        · simp [intOf]; omega
      case stop =>
        rintro c prei A' V hsp ⟨rfl, n, pre', hJx, hsp2, hn1, hbs⟩ ho hd
        have hz := hz2.out
        have hlw := fun b (hb : b ∈ bs) => (HLOW.out b (HBS.out b hb)).2
        have HD := hid hd
        have HSP := hid hsp2
        have HJX := hid hJx
        have HBV : Hid (∀ b ∈ bs, V.heap[b]? = some (.deferred (some []))) := hid (fun b hb => ho.heap (hbs b hb) (.inl (by have := hlw b hb; omega)))
        have HCH : Hid (Chg (tO O wr.heap.size n) A' V) := hid (Chg.ofOut ho (fun k h1 h2 => .inr ⟨by omega, by omega⟩))
        have HND : Hid ((W2.heap.size :: bs).Nodup) := hid (List.nodup_cons.2 ⟨fun hb => by have := hlw _ hb; omega, hMI.out.nd⟩)
        clear hd hsp2 hJx hbs ho hsp
        go_wp2_with fail
        refine leaves_marks rfl (W2.heap.size :: bs) V _ (fun b hb => ?_) HND.out (fun D hD => ?_)
        · rcases List.mem_cons.1 hb with rfl | hb
          · exact ⟨_, HD.out, rfl⟩
          · exact ⟨_, HBV.out b hb, rfl⟩
        · refine ⟨⟨_, rfl⟩, .inr ⟨tO O wr.heap.size n, pre', A', HSP.out, HJX.out, fun k hk => ?_, HCH.out.trans (hD.widen (fun k _ hk => ?_))⟩⟩
          · rcases hk with hk | hk
            · exact (HLOW.out k hk).1
            · have := HWZ.out; omega
          · rcases List.mem_cons.1 hk with rfl | hk
            · exact .inr ⟨by omega, by omega⟩
            · exact .inl (HBS.out k hk)
    · have hjL : j = L := by omega
      have HMI := hid (show MI J W.heap.size W.heap.size (W.heap.size + 1) l K B L O bs pre wr by rw [← hjL]; exact hMI.out)
      clear hMI
      go_wp2_with fail
      refine leaves_marks rfl bs wr _ (fun b hb => ⟨_, (HMI.out.ob b hb).2, rfl⟩) HMI.out.nd (fun D hD => ?_)
      obtain ⟨own, A, hJ, h1, h2, h3⟩ := HMI.out.held
      refine ⟨⟨_, rfl⟩, .inl ⟨own, pre, A, HMI.out.ms, hJ, ⟨hD.os.trans h3.os, hD.tape.trans h3.tape, hD.output.trans h3.output, Nat.le_trans h3.size hD.size, fun k hk hn => (hD.block k (Nat.lt_of_lt_of_le hk h3.size) (fun hb => ?_)).trans (h3.block k hk hn)⟩⟩⟩
      rcases h2 k (HMI.out.ob k hb).1 with g | g
      · exact hn g
      · omega
end Go.Proofs.YtfaiehjomcgjgaaDoor
