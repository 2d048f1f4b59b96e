/- A hoist for a meaning: the program's functions. -/
import Derived.Test.YtdighhkgopopeaaSeqB
import Derived.Test.YtdighhkgopopeaaLeastS
namespace Go.Proofs.Ytdighhkgopopeaa
set_option linter.unusedVariables false
open Go.RowKit
attribute [local go_sem] Oper.semAt_some
theorem results_cells_pair {P : Program} {fn : Func} {p q : Tmp} {ty tz : TypeId} (h : fn.results = #[.cell p ty, .cell q tz]) (tmps : Array Value) (w : World) {g k : Nat} {v u : Value} {d e : TypeDesc}
    (hp : tmps.getD p undef = .pointer (some ⟨g, 0, none⟩)) (hq : tmps.getD q undef = .pointer (some ⟨k, 0, none⟩)) (hv : w.cell? ⟨g, 0, none⟩ = some v) (hu : w.cell? ⟨k, 0, none⟩ = some u)
    (hty : P.underlying ty = some d) (hd : d.isRow = false) (htz : P.underlying tz = some e) (he : e.isRow = false) : (results fn tmps).run P w = .ok (.tuple #[v, u]) w := by
  have hp' : tmps[p]?.getD undef = .pointer (some ⟨g, 0, none⟩) := by simpa using hp
  have hq' : tmps[q]?.getD undef = .pointer (some ⟨k, 0, none⟩) := by simpa using hq
  simp [results, h, hp', hq', asAddr, Sem.run_bind, Result.andThen, run_loadVar_cell hv hty hd, run_loadVar_cell hu htz he]
set_option maxRecDepth 100000 in
/-- The iterator itself. -/
theorem hoistsFor_any (a : Option Addr) (n cap : Nat) (F : Fn) (lpF lbF : Array Value) (w : World) :
    Calls Try.prog 39 #[.slice a n cap, .func F lpF lbF] w fun e w' => e = .returned (.func (.func 42) #[] #[.pointer (some ⟨w.heap.size, 0, none⟩), .pointer (some ⟨w.heap.size + 1, 0, none⟩)]) ∧
      w' = (w.alloc (.cells #[.slice a n cap] 33)).alloc (.cells #[.func F lpF lbF] 67) := by
  go_enter Try.func39, Try.ntmps39
  go_wp2_with fail
  go_ret
  exact ⟨rfl, rfl⟩
theorem Own.out {k : IntKind} {e : TypeId} {A B : World} {lo hi a b : Nat} {v : Value} {xs : List Int} (h : Own k e A lo hi v xs) (o : Out a b A B) (hb : b ≤ lo) : Own k e B lo hi v xs := by
  refine ⟨⟨h.row.1, ?_⟩, h.top⟩
  rcases h.row.2 with h1 | ⟨g', cap, cur, h1, h2, h3, r⟩
  · exact .inl h1
  · exact .inr ⟨g', cap, cur, h1, h2, o.heap h3 (.inr (by omega)), r⟩
theorem headL_cons (x : List Int) (R : List (List Int)) : headL (x :: R) = x := rfl
theorem spH_one {L : List (List Int)} {x : Yld} (h : SpH L ([] ++ [x])) : headL L = x.2 ∧ headC L = 0 := by
  obtain ⟨rest, rfl⟩ := h
  exact ⟨rfl, rfl⟩
set_option maxHeartbeats 4000000 in
set_option maxRecDepth 100000 in
theorem firstHoist_any (a : Option Addr) (n cap : Nat) (m : List Int) (hn : n = m.length) (hcap : n ≤ cap) (hv : plainH m = true) (av : Int → Int) (F : FuncId) (lpF lbF : Array Value)
    (hcf : ∀ args w, (callFunc F args).run Try.prog w = .ok (.enter F args) w) (Kf : World → Prop) (w : World) (hs : SliceOf .i8 w a m)
    (hst : ∀ A B lo k, w.heap.size ≤ lo → Kf A → Out lo k A B → Kf B) (hk0 : Kf w)
    (hav : ∀ V x, Kf V → (-4 ≤ x ∧ x ≤ 39) → Calls Try.prog F (lpF ++ #[.int .i8 x] ++ lbF) V fun e w' => e = .returned (.int .i64 (av x)) ∧ V = w') :
    Calls Try.prog 30 #[.slice a n cap, .func (.func F) lpF lbF] w (RetOwn .i8 59 (withCode (headC (goC (choT m n n) av n []))) (headL (goC (choT m n n) av n [])) w) := by
  obtain ⟨L, hL⟩ : ∃ L, L = goC (choT m n n) av n [] := ⟨_, rfl⟩
  have HL := hid hL
  rw [← hL]
  clear hL
  have S := hid hs
  have HST := hid hst
  have HK0 := hid hk0
  have HAV := hid hav
  have HIT := hid (fun bm ba Kp W h1 h2 h3 h4 h5 => hoistsFor_iter a n cap m hn hcap hv av F lpF lbF hcf bm ba Kp W h1 h2 h3 h4 h5)
  rw [← HL.out] at HIT
  clear hs hst hk0 hav hn hcap hv hcf
  refine (callsIn_wide (n := 9)).1 (callsIn_of_wp_marks Try.func30 rfl trivial (wpIn_wide.2 ?_) rfl)
  simp only [Try.ntmps30, List.size_toArray, List.length_cons, List.length_nil, Nat.reduceAdd, Nat.reduceSub, Array.replicate_succ, Array.replicate_zero, List.push_toArray, List.append_toArray, List.nil_append, List.cons_append]
  go_wp2_with fail
  refine (hoistsFor_any _ _ _ _ _ _ _).mono ?_
  rintro e W2 ⟨rfl, hW2⟩
  have b0 : Hid (W2.heap[w.heap.size]? = some (.cells #[.slice none 0 0] 28 (0, 0))) := hid (by rw [hW2]; exact heap_kept (heap_kept (heap_kept (heap_new rfl))))
  have b1 : Hid (W2.heap[w.heap.size + 1]? = some (.cells #[.int .i64 0] 2 (0, 0))) := hid (by rw [hW2]; exact heap_kept (heap_kept (heap_new (by simp))))
  have b2 : Hid (W2.heap[w.heap.size + 1 + 1]? = some (.cells #[.slice a n cap] 33 (0, 0))) := hid (by rw [hW2]; exact heap_kept (heap_new (by simp)))
  have b3 : Hid (W2.heap[w.heap.size + 1 + 1 + 1]? = some (.cells #[.func (.func F) lpF lbF] 67 (0, 0))) := hid (by rw [hW2]; exact heap_new (by simp))
  have gr2 : Hid (Gr w W2) := hid (by rw [hW2]; exact ((((Gr.refl _).alloc _).alloc _).alloc _).alloc _)
  have hz2 : Hid (W2.heap.size = w.heap.size + 4) := hid (by rw [hW2]; simp)
  have HZ : Hid (((w.alloc (.cells #[.slice none 0 0] 28)).alloc (.cells #[.int .i64 0] 2)).heap.size = w.heap.size + 1 + 1) := hid (by simp)
  have HK2 : Hid (Kf W2) := hid (HST.out _ _ w.heap.size 0 (Nat.le_refl _) HK0.out (Out.ofBelow _ _ gr2.out))
  clear hW2
  go_wp2_with fail
  refine wp_rangeFunc_K (lb := #[.pointer (some ⟨w.heap.size + 1 + 1, 0, none⟩), .pointer (some ⟨w.heap.size + 1 + 1 + 1, 0, none⟩)]) (gf := 42) rfl (callFunc_enter Try.func42 (by kernel_rfl) (by kernel_rfl))
    (Kp := fun V => Kf V ∧ V.cell? ⟨w.heap.size + 1 + 1 + 1, 0, none⟩ = some (.func (.func F) lpF lbF))
    (fun W hb hz => HIT.out _ _ _ W
      (fun A B k hK ho => ⟨HST.out A B _ k (by rw [hz, hz2.out]; omega) hK.1 ho, ho.cell hK.2 (.inl (by dsimp only; rw [hz, hz2.out]; omega))⟩)
      (by rw [cell_of_row _ _ _ _ _ _ ((hb.block _ (lt_of_heap b2.out)).trans b2.out)]; rfl) (S.out.gr (gr2.out.trans hb)) (fun V hV => hV.2) (fun V x hV hx => HAV.out V x hV.1 hx))
    (fun A B hK ho => ⟨HST.out A B _ _ gr2.out.size hK.1 ho, ho.cell hK.2 (.inl (by dsimp only; rw [hz2.out]; omega))⟩)
    (fun m B C x hm h o => h.keep o hm) (fun _ => rfl)
    (fun n pre B => (B.heap[w.heap.size]? = some (.cells #[.slice none 0 0] 28 (0, 0)) ∧ B.heap[w.heap.size + 1]? = some (.cells #[.int .i64 0] 2 (0, 0)) ∧ B.heap[w.heap.size + 1 + 1 + 1]? = some (.cells #[.func (.func F) lpF lbF] 67 (0, 0))) ∧ Gr w B ∧ Kf B ∧ pre = [])
    (fun c pre C => c = .ret ∧ ∃ v xs, pre = [] ++ [(v, xs)] ∧ C.heap[w.heap.size]? = some (.cells #[v] 28 (0, 0)) ∧ C.heap[w.heap.size + 1]? = some (.cells #[.int .i64 0] 2 (0, 0)) ∧ Own .i8 59 C (W2.heap.size + 2) C.heap.size v xs ∧ Gr w C)
    (fun n pre A ⟨⟨_, _, h3⟩, _, hk, _⟩ => ⟨hk, by rw [cell_of_row _ _ _ _ _ _ h3]; rfl⟩)
    ?init ?a1 ?assign ?body ?done ?stop
  case assign =>
    intro l x W K hK
    gi_wp2
    exact hK
  case init =>
    intro n B hb hn1 hn2
    exact ⟨⟨(hb.block _ (lt_of_heap b0.out)).trans b0.out, (hb.block _ (lt_of_heap b1.out)).trans b1.out, (hb.block _ (lt_of_heap b3.out)).trans b3.out⟩, gr2.out.trans hb, HST.out _ _ _ 0 gr2.out.size HK2.out (Out.ofBelow _ _ hb), rfl⟩
  case body =>
    rintro l n' pre ⟨v, xs⟩ A B hn1 hn2 ⟨⟨h0, h1, h3⟩, hg, hkf, rfl⟩ ho hok hnx
    have hok' : Own .i8 59 B A.heap.size B.heap.size v xs := hok
    obtain ⟨a', c', rfl⟩ := hok'.shape
    have k0 := hid (ho.heap h0 (.inl (by rw [hz2.out]; omega)))
    have k1 := hid (ho.heap h1 (.inl (by rw [hz2.out]; omega)))
    have HGB := hid (Gr_out hg ho gr2.out.size)
    have HOK := hid (hok'.widen (show W2.heap.size + 2 ≤ A.heap.size by omega) (Nat.le_refl _))
    have c0 : B.cell? ⟨w.heap.size, 0, none⟩ = some (.slice none 0 0) := by rw [cell_of_row _ _ _ _ _ _ k0.out]; rfl
    have c1 : B.cell? ⟨w.heap.size + 1, 0, none⟩ = some (.int .i64 0) := by rw [cell_of_row _ _ _ _ _ _ k1.out]; rfl
    have f0 : B.frozen? ⟨w.heap.size, 0, none⟩ = false := frozen_of_row _ _ _ _ _ k0.out
    have f1 : B.frozen? ⟨w.heap.size + 1, 0, none⟩ = false := frozen_of_row _ _ _ _ _ k1.out
    clear h0 h1 h3 hg hkf ho hok hok' hnx hn1 hn2
    generalize xs.length = q at *
    gi_wp2
    have e0 : (B.setCell ⟨w.heap.size, 0, none⟩ (.slice a' q c')).heap[w.heap.size]? = some (.cells #[.slice a' q c'] 28 (0, 0)) := by rw [heap_setCell_same B _ 0 _ _ _ k0.out]; rfl
    have e1 : (B.setCell ⟨w.heap.size, 0, none⟩ (.slice a' q c')).heap[w.heap.size + 1]? = some (.cells #[.int .i64 0] 2 (0, 0)) := heap_stored (by dsimp only; omega) k1.out
    refine ⟨((Ins.refl _ _ _).setCell (.inl (by dsimp only; rw [hz2.out]; omega)) _).setCell (.inl (by dsimp only; rw [hz2.out]; omega)) _, rfl, _, xs, rfl, heap_stored (by dsimp only; omega) e0, ?_, ?_, ?_⟩
    · rw [heap_setCell_same _ _ 0 _ _ _ e1]; rfl
    · exact (HOK.out.ins (((Ins.refl _ _ _).setCell (.inl (by dsimp only; rw [hz2.out]; omega)) _).setCell (.inl (by dsimp only; rw [hz2.out]; omega)) _)).widen (Nat.le_refl _) (by simp)
    · exact ((show Gr w B from HGB.out).setCell (p := ⟨w.heap.size, 0, none⟩) (by dsimp only; omega) _).setCell (p := ⟨w.heap.size + 1, 0, none⟩) (by dsimp only; omega) _
  case done =>
    intro n xs' A W hn1 hn2 hS hI ho hd
    obtain ⟨⟨h0, h1, -⟩, hg, -, rfl⟩ := hI
    obtain rfl : L = [] := hS.symm
    have k0 := hid (ho.heap h0 (.inl (by rw [hz2.out]; omega)))
    have k1 := hid (ho.heap h1 (.inl (by rw [hz2.out]; omega)))
    have HG := hid (Gr_out hg ho gr2.out.size)
    have HD := hid hd
    have c0 : W.cell? ⟨w.heap.size, 0, none⟩ = some (.slice none 0 0) := by rw [cell_of_row _ _ _ _ _ _ k0.out]; rfl
    have c1 : W.cell? ⟨w.heap.size + 1, 0, none⟩ = some (.int .i64 0) := by rw [cell_of_row _ _ _ _ _ _ k1.out]; rfl
    have f0 : W.frozen? ⟨w.heap.size, 0, none⟩ = false := frozen_of_row _ _ _ _ _ k0.out
    have f1 : W.frozen? ⟨w.heap.size + 1, 0, none⟩ = false := frozen_of_row _ _ _ _ _ k1.out
    clear hd h0 h1 hg ho hS hn2
    go_wp2
    have e0 : (W.setCell ⟨w.heap.size, 0, none⟩ (.slice none 0 0)).heap[w.heap.size]? = some (.cells #[.slice none 0 0] 28 (0, 0)) := by rw [heap_setCell_same W _ 0 _ _ _ k0.out]; rfl
    have e1 : (W.setCell ⟨w.heap.size, 0, none⟩ (.slice none 0 0)).heap[w.heap.size + 1]? = some (.cells #[.int .i64 0] 2 (0, 0)) := heap_stored (by dsimp only; omega) k1.out
    have e2 : ((W.setCell ⟨w.heap.size, 0, none⟩ (.slice none 0 0)).setCell ⟨w.heap.size + 1, 0, none⟩ (.int .i64 6)).heap[w.heap.size + 1]? = some (.cells #[.int .i64 6] 2 (0, 0)) := by rw [heap_setCell_same _ _ 0 _ _ _ e1]; rfl
    have e3 : ((W.setCell ⟨w.heap.size, 0, none⟩ (.slice none 0 0)).setCell ⟨w.heap.size + 1, 0, none⟩ (.int .i64 6)).heap[w.heap.size]? = some (.cells #[.slice none 0 0] 28 (0, 0)) := heap_stored (by dsimp only; omega) e0
    refine leaves_mark (heap_stored (by dsimp only; rw [hz2.out]; omega) (heap_stored (by dsimp only; rw [hz2.out]; omega) HD.out)) (results_cells_pair rfl _ _ rfl rfl (by rw [cell_of_row _ _ _ _ _ _ (heap_putObj (by rw [hz2.out]; omega) e3)]; rfl) (by rw [cell_of_row _ _ _ _ _ _ (heap_putObj (by rw [hz2.out]; omega) e2)]; rfl) Try.underlying28 rfl Try.underlying2 rfl) ⟨.slice none 0 0, rfl, Own.nil _ _ _, ?_⟩
    exact Gr_putObj (((show Gr w W from HG.out).setCell (p := ⟨w.heap.size, 0, none⟩) (by dsimp only; omega) _).setCell (p := ⟨w.heap.size + 1, 0, none⟩) (by dsimp only; omega) _) (by rw [hz2.out]; omega) _
  case stop =>
    rintro c pre A W hsp ⟨rfl, v, xs, rfl, h0, h1, ow, hg⟩ ho hd
    obtain ⟨eL, eC⟩ := spH_one hsp
    have k0 := ho.heap h0 (.inl (by rw [hz2.out]; omega))
    have k1 := ho.heap h1 (.inl (by rw [hz2.out]; omega))
    have HG := Gr_out hg ho gr2.out.size
    go_wp2
    refine leaves_mark hd (results_cells_pair rfl _ _ rfl rfl (by rw [cell_of_row _ _ _ _ _ _ (heap_putObj (by rw [hz2.out]; omega) k0)]; rfl) (by rw [cell_of_row _ _ _ _ _ _ (heap_putObj (by rw [hz2.out]; omega) k1)]; rfl) Try.underlying28 rfl Try.underlying2 rfl) ⟨v, rfl, ?_, Gr_putObj HG (by rw [hz2.out]; omega) _⟩
    exact (ow.out (ho.trans (Out.putObj _ _ W (Nat.le_refl _) (by omega) _)) (Nat.le_refl _)).widen (by rw [hz2.out]; omega) (by rw [World.putObj_size]; exact ho.size)
end Go.Proofs.Ytdighhkgopopeaa
