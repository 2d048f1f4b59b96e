/- The hoists of a meaning, one by one: the program's iterator. -/
import Derived.Test.YtdighhkgopopeaaRangeK
import Derived.Test.YtdighhkgopopeaaSeqM
import Derived.Test.YtdighhkgopopeaaChoices
import Derived.Test.YtdighhkgopopeaaHoistF
import Derived.Test.YtdighhkgopopeaaLook3
import Derived.Sort.QuietTacIn
import Derived.WalkMore
namespace Go.Proofs.Ytdighhkgopopeaa
set_option linter.unusedVariables false
open Go.RowKit
attribute [local go_sem] Oper.semAt_some
theorem Own.ins {k : IntKind} {e : TypeId} {w w' : World} {lo hi : Nat} {v : Value} {xs : List Int} (h : Own k e w lo hi v xs) (i : Ins lo hi w w') : Own k e w' lo hi v xs := by
  refine ⟨⟨h.row.1, ?_⟩, h.top⟩
  rcases h.row.2 with h1 | ⟨g', cap, cur, h1, h2, h3, r⟩
  · exact .inl h1
  · exact .inr ⟨g', cap, cur, h1, h2, i.heap h3 h2 (h.top g' (by rw [h1]; rfl)), r⟩
theorem OwnH.ins {w w' : World} {lo hi : Nat} {v : Value} {vs : List Value} {xss : List (List Int)} (h : OwnH w lo hi v vs xss) (i : Ins lo hi w w') : OwnH w' lo hi v vs xss := by
  refine ⟨⟨h.row.1, ?_⟩, h.top, fun j hj => ?_, h.apart, h.dist⟩
  · rcases h.row.2 with h1 | ⟨g', cap, cur, h1, h2, h3, r⟩
    · exact .inl h1
    · exact .inr ⟨g', cap, cur, h1, h2, i.heap h3 h2 (h.top g' (by rw [h1]; rfl)), r⟩
  · obtain ⟨u, hu, ho⟩ := h.each j hj
    exact ⟨u, hu, ho.ins i⟩
theorem Ins.narrow {lo hi lo' hi' : Nat} {A B : World} (h : Ins lo hi A B) (h1 : lo ≤ lo') (h2 : hi' ≤ hi) : Ins lo' hi' A B := ⟨h.size, fun k a b => h.block k (by omega) (by omega)⟩
/-- The numbers that lie in a block. -/
def intsIn (w : World) (g : Nat) : List Int := match w.heap[g]? with | some (.cells cs _ _) => cs.toList.map intOf | _ => []
theorem intsIn_ints {w : World} {g : Nat} {k : IntKind} {xs : List Int} {t : TypeId} {fr : Nat × Nat} (h : w.heap[g]? = some (.cells (kCells k xs) t fr)) : intsIn w g = xs := by
  unfold intsIn
  rw [h]
  simp only [kCells, List.map_map]
  conv => rhs; rw [← List.map_id xs]
  rfl
abbrev Yld := Value × List Int
/-- The iterator's own blocks: g holds how many choices have been tried, g + 1 what has been chosen. -/
structure It (J : Nat → List Yld → World → Prop) (n0 g : Nat) (vch : Value) (vs : List Value) (cs : List (List Int)) (pre : List Yld) (h tr : List Int) (wr : World) : Prop where
  held : ∃ A, J (g + 2) pre A ∧ g + 2 ≤ A.heap.size ∧ Out n0 (g + 2) A wr
  cho : OwnH wr n0 g vch vs cs
  b1 : wr.heap[g]? = some (.cells (kCells .i64 tr) 3 (0, 0))
  b2 : wr.heap[g + 1]? = some (.cells (kCells .i8 h) 59 (0, 0))
section
variable {J : Nat → List Yld → World → Prop} {n0 g : Nat} {vch : Value} {vs : List Value} {cs : List (List Int)} {pre : List Yld} {h tr : List Int} {wr : World}
theorem It.size (i : It J n0 g vch vs cs pre h tr wr) : g + 2 ≤ wr.heap.size := by obtain ⟨A, _, h2, h3⟩ := i.held; exact Nat.le_trans h2 h3.size
theorem It.drewN (i : It J n0 g vch vs cs pre h tr wr) (n : Nat) : It J n0 g vch vs cs pre h tr (wr.drewN n) := by
  obtain ⟨A, h1, h2, h3⟩ := i.held
  exact ⟨⟨A, h1, h2, h3.drewN n⟩, i.cho.gr ((Gr.refl wr).drewN n), i.b1, i.b2⟩
theorem It.setTr (i : It J n0 g vch vs cs pre h tr wr) (hg : n0 ≤ g) (k : Nat) (x : Int) : It J n0 g vch vs cs pre h (tr.set k x) (wr.setCell ⟨g, k, none⟩ (.int .i64 x)) := by
  obtain ⟨A, h1, h2, h3⟩ := i.held
  exact ⟨⟨A, h1, h2, h3.setCell (by dsimp only; omega) (.inl (by dsimp only; omega)) _⟩, i.cho.ins ((Ins.refl _ _ _).setCell (.inr (by dsimp only; omega)) _), heap_int_set i.b1, heap_stored (by dsimp only; omega) i.b2⟩
theorem It.setH (i : It J n0 g vch vs cs pre h tr wr) (hg : n0 ≤ g) (k : Nat) (x : Int) : It J n0 g vch vs cs pre (h.set k x) tr (wr.setCell ⟨g + 1, k, none⟩ (.int .i8 x)) := by
  obtain ⟨A, h1, h2, h3⟩ := i.held
  exact ⟨⟨A, h1, h2, h3.setCell (by dsimp only; omega) (.inl (by dsimp only; omega)) _⟩, i.cho.ins ((Ins.refl _ _ _).setCell (.inr (by dsimp only; omega)) _), heap_stored (by dsimp only; omega) i.b1, heap_int_set i.b2⟩
theorem It.next (i : It J n0 g vch vs cs pre h tr wr) (hg : n0 ≤ g) {B C : World} {x : Yld} (hB : Gr wr B) (hI : Ins n0 (g + 2) B C) (hJ : J (g + 2) (pre ++ [x]) C) : It J n0 g vch vs cs (pre ++ [x]) h tr C := by
  have hsz := i.size
  have hin : Ins n0 (g + 2) wr C := (Ins.ofBelow hB hsz).trans hI
  exact ⟨⟨C, hJ, Nat.le_trans hsz hin.size, Out.refl _ _ _⟩, i.cho.ins (hin.narrow (Nat.le_refl _) (by omega)), hin.heap i.b1 hg (by omega), hin.heap i.b2 (by omega) (by omega)⟩
end
/-- What is handed out: a hoist in a block of its own. -/
def OkH (m : Nat) (B : World) (x : Yld) : Prop := Own .i8 59 B m B.heap.size x.1 x.2
def NxH (L : List (List Int)) (pre : List Yld) (x : Yld) : Prop := ∃ rest, pre.map (·.2) ++ x.2 :: rest = L
def SH (L : List (List Int)) (xs : List Yld) : Prop := xs.map (·.2) = L
def SpH (L : List (List Int)) (pre : List Yld) : Prop := ∃ rest, pre.map (·.2) ++ rest = L
theorem OkH.keep {m lo hi : Nat} {B C : World} {x : Yld} (h : OkH m B x) (o : Out lo hi B C) (hm : hi ≤ m) : OkH m C x := by
  unfold OkH at h ⊢
  refine Own.widen (hi := B.heap.size) ?_ (Nat.le_refl _) o.size
  refine ⟨⟨h.row.1, ?_⟩, h.top⟩
  rcases h.row.2 with h1 | ⟨g', cap, cur, h1, h2, h3, r⟩
  · exact .inl h1
  · exact .inr ⟨g', cap, cur, h1, h2, o.heap h3 (.inr (by omega)), r⟩
/-- What may stand at a place is a number. -/
theorem candsL_num {m : List Int} (hv : plainH m = true) {k p : Nat} (hk : k < m.length) : (candsL m k).getD p 0 = -10 ∨ (-4 ≤ (candsL m k).getD p 0 ∧ (candsL m k).getD p 0 ≤ 39) := by
  have key : ∀ n, n ≤ 4 → ∀ x ∈ repsL m k n, -4 ≤ x ∧ x ≤ -1 := by
    intro n
    induction n with
    | zero => intro _ x hx; simp [repsL] at hx
    | succ n ih =>
      intro hn x hx
      rw [repsL] at hx
      split at hx
      · rcases List.mem_cons.1 hx with rfl | hx
        · omega
        · exact ih (by omega) x hx
      · exact ih (by omega) x hx
  by_cases hp : p < (candsL m k).length
  · have hmem : (candsL m k).getD p 0 ∈ candsL m k := by
      rw [List.getD, List.getElem?_eq_getElem hp]
      exact List.getElem_mem hp
    generalize (candsL m k).getD p 0 = x at *
    unfold candsL at hmem
    rcases List.mem_append.1 hmem with h1 | h1
    · have := key 4 (Nat.le_refl _) x h1; omega
    · rw [List.mem_singleton] at h1
      have := plain_nums hv k hk
      omega
  · rw [List.getD, List.getElem?_eq_none (by omega)]
    simp
/-- The state of the search. -/
structure Inv (J : Nat → List Yld → World → Prop) (n0 g : Nat) (vch : Value) (vs : List Value) (cs : List (List Int)) (av : Int → Int) (n : Nat) (L : List (List Int)) (pre : List Yld) (h tr : List Int) (K : Nat) (wr : World) : Prop where
  it : It J n0 g vch vs cs pre h tr wr
  hl : h.length = n
  tl : tr.length = n
  sum : pre.map (·.2) ++ remA cs av n h tr K = L
  nat : ∀ j, j < n → ∃ p : Nat, tr.getD j 0 = (p : Int) ∧ p ≤ (cs.getD j []).length
  zer : ∀ j, K ≤ j → j < n → tr.getD j 0 = 0
section
variable {J : Nat → List Yld → World → Prop} {n0 g n K k p : Nat} {vch : Value} {vs : List Value} {cs : List (List Int)} {av : Int → Int} {L : List (List Int)} {pre : List Yld} {h tr : List Int} {wr wr' : World} {x : Yld} {c : Int}
theorem Inv.nx {v : Value} (i : Inv J n0 g vch vs cs av n L pre h tr (n + 1) wr) : NxH L pre (v, h) := ⟨_, by rw [← remA_top]; exact i.sum⟩
theorem Inv.sp {v : Value} (i : Inv J n0 g vch vs cs av n L pre h tr (n + 1) wr) : SpH L (pre ++ [(v, h)]) := ⟨remA cs av n h tr n, by
  have := i.sum
  rw [remA_top] at this
  rw [List.map_append, List.append_assoc]
  exact this⟩
theorem Inv.top {v : Value} (i : Inv J n0 g vch vs cs av n L pre h tr (n + 1) wr) (it : It J n0 g vch vs cs (pre ++ [(v, h)]) h tr wr') : Inv J n0 g vch vs cs av n L (pre ++ [(v, h)]) h tr n wr' := by
  refine ⟨it, i.hl, i.tl, ?_, i.nat, fun j h1 h2 => absurd h2 (by omega)⟩
  have := i.sum
  rw [remA_top] at this
  rw [List.map_append, List.append_assoc]
  exact this
theorem Inv.done (i : Inv J n0 g vch vs cs av n L pre h tr 0 wr) : SH L pre := by
  have := i.sum
  rwa [remA, List.append_nil] at this
theorem Inv.keep (i : Inv J n0 g vch vs cs av n L pre h tr K wr) (it : It J n0 g vch vs cs pre h tr wr') : Inv J n0 g vch vs cs av n L pre h tr K wr' := ⟨it, i.hl, i.tl, i.sum, i.nat, i.zer⟩
theorem Inv.none (i : Inv J n0 g vch vs cs av n L pre h tr (k + 1) wr) (hk : k < n) (hp : tr.getD k 0 = (p : Int)) (hl : (cs.getD k []).length ≤ p) (it : It J n0 g vch vs cs pre h (tr.set k 0) wr') : Inv J n0 g vch vs cs av n L pre h (tr.set k 0) k wr' := by
  refine ⟨it, i.hl, by rw [List.length_set]; exact i.tl, ?_, fun j hj => ?_, fun j h1 h2 => ?_⟩
  · rw [← remA_none hk (by rw [hp, Int.toNat_natCast]; exact hl) 0]; exact i.sum
  · by_cases e : k = j
    · subst e; exact ⟨0, by rw [getD_set_eq (by rw [i.tl]; exact hj)]; rfl, Nat.zero_le _⟩
    · rw [getD_set_ne e]; exact i.nat j hj
  · by_cases e : k = j
    · subst e; rw [getD_set_eq (by rw [i.tl]; exact h2)]
    · rw [getD_set_ne e]; exact i.zer j (by omega) h2
theorem Inv.skip (i : Inv J n0 g vch vs cs av n L pre h tr (k + 1) wr) (hk : k < n) (hp : tr.getD k 0 = (p : Int)) (hl : p < (cs.getD k []).length) (hno : okV av (h.take k) ((cs.getD k []).getD p 0) = false)
    (it : It J n0 g vch vs cs pre h (tr.set k ((p : Int) + 1)) wr') : Inv J n0 g vch vs cs av n L pre h (tr.set k ((p : Int) + 1)) (k + 1) wr' := by
  refine ⟨it, i.hl, by rw [List.length_set]; exact i.tl, ?_, fun j hj => ?_, fun j h1 h2 => ?_⟩
  · rw [← remA_skip hk (by rw [i.tl]; exact hk) hp hl hno]; exact i.sum
  · by_cases e : k = j
    · subst e; exact ⟨p + 1, by rw [getD_set_eq (by rw [i.tl]; exact hj)]; rfl, hl⟩
    · rw [getD_set_ne e]; exact i.nat j hj
  · rw [getD_set_ne (by omega)]; exact i.zer j h1 h2
theorem Inv.take (i : Inv J n0 g vch vs cs av n L pre h tr (k + 1) wr) (hk : k < n) (hp : tr.getD k 0 = (p : Int)) (hl : p < (cs.getD k []).length) (hyes : okV av (h.take k) ((cs.getD k []).getD p 0) = true)
    (it : It J n0 g vch vs cs pre (h.set k ((cs.getD k []).getD p 0)) (tr.set k ((p : Int) + 1)) wr') : Inv J n0 g vch vs cs av n L pre (h.set k ((cs.getD k []).getD p 0)) (tr.set k ((p : Int) + 1)) (k + 2) wr' := by
  refine ⟨it, by rw [List.length_set]; exact i.hl, by rw [List.length_set]; exact i.tl, ?_, fun j hj => ?_, fun j h1 h2 => ?_⟩
  · rw [← remA_take hk i.hl i.tl hp hl (fun j h1 h2 => i.zer j h1 h2) hyes]; exact i.sum
  · by_cases e : k = j
    · subst e; exact ⟨p + 1, by rw [getD_set_eq (by rw [i.tl]; exact hj)]; rfl, hl⟩
    · rw [getD_set_ne e]; exact i.nat j hj
  · rw [getD_set_ne (by omega)]; exact i.zer j (by omega) h2
theorem Inv.start (it : It J n0 g vch vs cs [] (List.replicate n 0) (List.replicate n 0) wr) (h1 : 1 ≤ n) : Inv J n0 g vch vs cs av n (goC cs av n []) [] (List.replicate n 0) (List.replicate n 0) 1 wr := by
  have hz : ∀ j, (List.replicate n (0 : Int)).getD j 0 = 0 := fun j => by
    simp only [List.getD_eq_getElem?_getD, List.getElem?_replicate]
    split <;> rfl
  exact ⟨it, by simp, by simp, by rw [remA_start h1 (hz 0)]; rfl, fun j _ => ⟨0, hz j, Nat.zero_le _⟩, fun j _ _ => hz j⟩
theorem Inv.mu (i : Inv J n0 g vch vs cs av n L pre h tr K wr) : intsIn wr g = tr := intsIn_ints i.it.b1
end
set_option maxHeartbeats 8000000 in
set_option maxRecDepth 100000 in
theorem hoistsFor_iter (a : Option Addr) (n cap : Nat) (m : List Int) (hn : n = m.length) (hcap : n ≤ cap) (hv : plainH m = true) (av : Int → Int) (F : FuncId) (lpF lbF : Array Value)
    (hcf : ∀ args w, (callFunc F args).run Try.prog w = .ok (.enter F args) w) (bm ba : Nat) (Kp : World → Prop) (W : World)
    (hst : ∀ A B k, Kp A → Out W.heap.size k A B → Kp B) (hbm : W.cell? ⟨bm, 0, none⟩ = some (.slice a n cap)) (hs : SliceOf .i8 W a m)
    (hba : ∀ V, Kp V → V.cell? ⟨ba, 0, none⟩ = some (.func (.func F) lpF lbF))
    (hav : ∀ V x, Kp V → (-4 ≤ x ∧ x ≤ 39) → Calls Try.prog F (lpF ++ #[.int .i8 x] ++ lbF) V fun e w' => e = .returned (.int .i64 (av x)) ∧ V = w') :
    IterK Try.prog 42 #[.pointer (some ⟨bm, 0, none⟩), .pointer (some ⟨ba, 0, none⟩)] (fun x : Yld => #[x.1]) OkH (NxH (goC (choT m n n) av n [])) (SH (goC (choT m n n) av n [])) (SpH (goC (choT m n n) av n [])) Kp W := by
  intro l J Jx hJK h0 hY
  obtain ⟨h1, h8⟩ := validH_len (plainH_valid hv)
  rw [← hn] at h1 h8
  have hmk1 := run_make_ints (P := Try.prog) (t := 89) (e := 3) (k := .i64) (bytes := 8) Try.underlying89 (by kernel_rfl) n (by omega) (by omega)
  have hmk2 := run_make_ints (P := Try.prog) (t := 28) (e := 59) (k := .i8) (bytes := 1) Try.underlying28 (by kernel_rfl) n (by omega) (by omega)
  have HCH := hid ((callsIn_wide (n := 7)).2 (choices_any a n cap m hn hcap hv W hs))
  obtain ⟨n0, hn0⟩ : ∃ n0, n0 = W.heap.size := ⟨_, rfl⟩
  obtain ⟨cs, hcs⟩ : ∃ cs, cs = choT m n n := ⟨_, rfl⟩
  have CLN := hid (show cs.length = n by rw [hcs, choT_length])
  have CGET := hid (fun k (hk : k < n) => show cs.getD k [] = candsL m k by rw [hcs, choT_get hk, if_pos hk])
  have CLEN := hid (fun k (hk : k < n) => show 1 ≤ (cs.getD k []).length ∧ (cs.getD k []).length ≤ 5 by rw [CGET.out k hk]; exact candsL_length m k)
  have CNUM := hid (fun k p (hk : k < n) => show (cs.getD k []).getD p 0 = -10 ∨ (-4 ≤ (cs.getD k []).getD p 0 ∧ (cs.getD k []).getD p 0 ≤ 39) by rw [CGET.out k hk]; exact candsL_num hv (by omega))
  rw [← hcs] at hY HCH ⊢
  obtain ⟨L, hL⟩ : ∃ L, L = goC cs av n [] := ⟨_, rfl⟩
  rw [← hL] at hY ⊢
  have HL := hid hL
  have HY := hid hY
  have H0 := hid h0
  have HJK := hid hJK
  have HST := hid hst
  have HBA := hid hba
  have HAV := hid hav
  have HBM := hid hbm
  have HN0 := hid hn0
  rw [← hn0] at HY HST
  clear hL hY h0 hJK hst hba hav hbm hs hn hv hcap hcs CGET hn0
  refine callsIn_of_wp Try.func42 rfl trivial ?_ rfl
  simp only [Try.ntmps42, List.size_toArray, List.length_cons, List.length_nil, Nat.reduceAdd, Nat.reduceSub, Array.replicate_succ, Array.replicate_zero, List.push_toArray, List.append_toArray, List.nil_append, List.cons_append]
  have hbm := HBM.out
  refine (wpIn_wide (n := 8)).2 (wp_scope_straight ((wpIn_wide (n := 8)).1 ?_))
  gi_wp2_with (apply wpIn_label)
  refine ⟨trivial, ?_⟩
  refine HCH.out.mono ?_
  rintro e W1 ⟨vch, vs, rfl, och, g1⟩
  have HG1 := hid g1
  obtain ⟨g, hg⟩ : ∃ g, g = W1.heap.size := ⟨_, rfl⟩
  obtain ⟨gl, cc, rfl⟩ : ∃ gl cc, vch = .slice (some ⟨gl, 0, none⟩) n cc := by
    rcases och.row.2 with ⟨_, h2⟩ | ⟨g', cap', cur, h1', _⟩
    · rw [CLN.out] at h2; omega
    · exact ⟨g', cap', by rw [h1', CLN.out]⟩
  rw [← hg] at och
  have HNG := hid (show n0 ≤ g by have := g1.size; have := HN0.out; omega)
  have OCH := hid och
  have HGV := hid hg
  clear g1 och hbm hg
  have hbm1 := HG1.out.cell HBM.out
  have hbm2 := ((Gr.refl W1).alloc (.cells (kCells .i64 (List.replicate n 0)) 3)).cell hbm1
  gi_wp2_with (apply wpIn_label)
  generalize hW3 : World.alloc _ _ = W3
  have INV0 : Hid (Inv J n0 g (.slice (some ⟨gl, 0, none⟩) n cc) vs cs av n L [] (List.replicate n 0) (List.replicate n 0) 1 W3) := by
    refine hid ?_
    rw [HL.out]
    refine Inv.start ⟨⟨W3, H0.out _ _ ?_ ?_, ?_, Out.refl _ _ _⟩, ?_, ?_, ?_⟩ h1
    · rw [← hW3]; exact (HG1.out.alloc _).alloc _
    · rw [← hW3, HGV.out]; simp
    · rw [← hW3, HGV.out]; simp
    · rw [← hW3, HN0.out]; exact (OCH.out.gr ((Gr.refl W1).alloc _)).gr ((Gr.refl _).alloc _)
    · rw [← hW3, HGV.out]; exact heap_kept (heap_new rfl)
    · rw [← hW3, HGV.out]; exact heap_new (by simp)
  rw [← HGV.out]
  clear hW3 hmk1 hmk2 hbm1 hbm2 OCH
  gi_loopw [7] (fun i wr => ∃ (z : Int) (pre : List Yld) (h tr : List Int), (-1 ≤ z ∧ z ≤ n) ∧ i = .int .i64 z ∧ Hid (Inv J n0 g (.slice (some ⟨gl, 0, none⟩) n cc) vs cs av n L pre h tr (z + 1).toNat wr)) (fun i wr => muA cs n (intsIn wr g) (intOf i + 1).toNat)
  case atStart => exact ⟨0, [], _, _, by omega, rfl, INV0⟩
  case round =>
    obtain ⟨z, pre, h, tr, ⟨hz0, hz1⟩, rfl, IV⟩ := hrel
    obtain ⟨M0, hM0⟩ : ∃ M0, M0 = muA cs n (intsIn wr g) (z + 1).toNat := ⟨_, rfl⟩
    have HM0 := hid hM0
    clear hM0
    rcases (show z = -1 ∨ z = n ∨ (0 ≤ z ∧ z < n) by omega) with rfl | rfl | ⟨hz2, hz3⟩
    · gi_wp2_with (apply wpIn_label)
      rw [Exit.noGoto_normal]
      go_end0
      obtain ⟨A, hJ, hA, hO⟩ := IV.out.it.held
      have hN := HNG.out
      rw [HN0.out] at hN hO
      exact ⟨⟨_, rfl⟩, .inl ⟨g + 2, pre, A, by omega, hA, IV.out.done, hJ, hO⟩⟩
    rotate_left
    · obtain ⟨k, rfl⟩ := Int.eq_ofNat_of_zero_le hz2
      have hk : k < n := by omega
      obtain ⟨wo, hwo⟩ : ∃ wo : World, wo = wr := ⟨_, rfl⟩
      obtain ⟨pre', hpre⟩ : ∃ pre', pre' = pre := ⟨_, rfl⟩
      have IVk : Hid (Inv J n0 g (.slice (some ⟨gl, 0, none⟩) n cc) vs cs av n L pre' h tr (k + 1) wo) := hid (by have := IV.out; rw [hwo, hpre]; rwa [show ((k : Int) + 1).toNat = k + 1 by omega] at this)
      have HM : Hid (muA cs n tr (k + 1) ≤ M0) := hid (by rw [HM0.out, IV.out.mu, show ((k : Int) + 1).toNat = k + 1 by omega]; exact Nat.le_refl _)
      rw [← hwo] at HM0 ⊢
      clear hwo hpre IV hz0 hz1 hz2 hz3
      gi_wp2_with (apply wpIn_label)
      --@INNER
      gi_loopw [7] (fun i wi => i = .int .i64 k ∧ ∃ tr : List Int, Hid (Inv J n0 g (.slice (some ⟨gl, 0, none⟩) n cc) vs cs av n L pre' h tr (k + 1) wi ∧ muA cs n tr (k + 1) ≤ M0)) (fun i wi => (cs.getD k []).length - ((intsIn wi g).getD k 0).toNat)
      case atStart => exact ⟨rfl, tr, hid ⟨IVk.out, HM.out⟩⟩
      case round =>
        obtain ⟨rfl, tr, IVM⟩ := hrel
        obtain ⟨p, hp, hpl⟩ := IVM.out.1.nat k hk
        have ctr := cell_ints IVM.out.1.it.b1 (i := k) (by rw [IVM.out.1.tl]; exact hk)
        rw [hp] at ctr
        obtain ⟨g', a', c', eg, cch, hvs, oin⟩ := IVM.out.1.it.cho.at_ (i := k) (by rw [CLN.out]; exact hk)
        obtain rfl : gl = g' := by simpa using eg
        have HPV := hid hp
        have hq5 := (CLEN.out k hk).2
        obtain ⟨q, hq⟩ : ∃ q, q = (cs.getD k []).length := ⟨_, rfl⟩
        rw [← hq] at cch oin hpl hq5
        have HQ := hid hq
        clear hq hp eg hvs
        by_cases hpq : p < q
        · obtain ⟨gi, ea, -, cin, -⟩ := oin.at_ (i := p) (by rw [← HQ.out]; exact hpq)
          subst ea
          have hnum := CNUM.out k p hk
          obtain ⟨c, hc⟩ : ∃ c, c = (cs.getD k []).getD p 0 := ⟨_, rfl⟩
          rw [← hc] at cin hnum
          have HC := hid hc
          have ftr : wr.frozen? ⟨g, k, none⟩ = false := frozen_of_row _ _ _ _ _ IVM.out.1.it.b1
          clear hc oin
          gi_wp2_with (apply wpIn_label)
          gi_quiet_th (fail)
          gi_wp2_with (apply wpIn_label)
          gi_quiet_th (fail)
          gi_wp2_with (apply wpIn_label)
          generalize hW5 : World.setCell _ _ _ = W5
          have IT5 : Hid (It J n0 g (.slice (some ⟨gl, 0, none⟩) n cc) vs cs pre' h (tr.set k ((p : Int) + 1)) W5) := hid (by rw [← hW5]; exact (IVM.out.1.it.drewN _).setTr HNG.out k _)
          clear hW5 ctr cch cin ftr
          have HKP : Hid (∀ n, Kp (W5.drewN n)) := hid (fun n => by
            obtain ⟨A, hJ, hA, hO⟩ := IT5.out.held
            exact HST.out A _ _ (HJK.out _ _ _ hJ) (hO.drewN n))
          have HHL := IVM.out.1.hl
          have HTK := hid (show (h.take k).length = k by rw [List.length_take, HHL]; omega)
          have HSH : Hid (SliceOf .i8 W5 (some ⟨g + 1, 0, none⟩) (h.take k)) := hid (fun i hi => by
            rw [HTK.out] at hi
            refine ⟨g + 1, 0, rfl, ?_⟩
            rw [Nat.zero_add, cell_ints IT5.out.b2 (by omega)]
            simp only [List.getD_eq_getElem?_getD, List.getElem?_take, if_pos hi])
          have ch := cell_ints IT5.out.b2 (i := k) (by rw [HHL]; exact hk)
          have fh : W5.frozen? ⟨g + 1, k, none⟩ = false := frozen_of_row _ _ _ _ _ IT5.out.b2
          generalize h.getD k 0 = hk0 at *
          clear HHL
          rcases hnum with rfl | hnum
          · have HOK := hid (show okV av (h.take k) (-10) = true by unfold okV; simp)
            refine (wpIn_wide (n := 8)).2 ?_
            go_quiet (fail)
            gi_wp2_with (apply wpIn_label)
            have IVT := IVM.out.1.take hk HPV.out (by rw [← HQ.out]; exact hpq) (by rw [← HC.out]; exact HOK.out) (by rw [← HC.out]; exact (IT5.out.drewN nq).setH HNG.out k _)
            have ez : ((k : Int) + 1 + 1).toNat = k + 2 := by omega
            refine ⟨⟨(k : Int) + 1, pre', _, _, ⟨by omega, by omega⟩, rfl, hid (by rw [ez]; exact IVT)⟩, Nat.lt_of_lt_of_eq ?_ HM0.out⟩
            rw [show (intOf (.int .i64 ((k : Int) + 1)) + 1).toNat = k + 2 from ez, IVT.mu]
            exact Nat.lt_of_lt_of_le (muA_take hk IVM.out.1.tl HPV.out (by rw [← HQ.out]; exact hpq) (fun j hj => (CLEN.out j hj).2)) IVM.out.2
          · have hne : (c == -10) = false := by simp; omega
            have hba5 := HBA.out _ (HKP.out 0)
            rw [World.drewN_zero] at hba5
            have HCO := hid (fun V (hs : SliceOf .i8 V (some ⟨g + 1, 0, none⟩) (h.take k)) => count_any (some ⟨g + 1, 0, none⟩) k n (h.take k) HTK.out.symm (by omega) c V hs)
            have HAC := hid (fun V (hV : Kp V) => HAV.out V c hV hnum)
            have HOV := hid (show okV av (h.take k) c = decide (occ (h.take k) c k < av c) by unfold okV; rw [HTK.out, decide_eq_false (by omega), Bool.false_or])
            generalize occ (h.take k) c k = o at *
            generalize av c = b at *
            by_cases hob : o < b
            · refine (wpIn_wide (n := 8)).2 ?_
              go_quiet (first | (go_at_call 45; exact Calls.quiet_of_same ((HCO.out _ (HSH.out.drewN _)).mono fun _ _ h => ⟨h.1, h.2.symm⟩)) | (exact Calls.quiet_of_same ((HAC.out _ (HKP.out _)).mono fun _ _ h => ⟨h.1, h.2.symm⟩)))
              gi_wp2_with (apply wpIn_label)
              have IVT := IVM.out.1.take hk HPV.out (by rw [← HQ.out]; exact hpq) (by rw [← HC.out]; exact HOV.out.trans (decide_eq_true hob)) (by rw [← HC.out]; exact (IT5.out.drewN nq).setH HNG.out k _)
              have ez : ((k : Int) + 1 + 1).toNat = k + 2 := by omega
              refine ⟨⟨(k : Int) + 1, pre', _, _, ⟨by omega, by omega⟩, rfl, hid (by rw [ez]; exact IVT)⟩, Nat.lt_of_lt_of_eq ?_ HM0.out⟩
              rw [show (intOf (.int .i64 ((k : Int) + 1)) + 1).toNat = k + 2 from ez, IVT.mu]
              exact Nat.lt_of_lt_of_le (muA_take hk IVM.out.1.tl HPV.out (by rw [← HQ.out]; exact hpq) (fun j hj => (CLEN.out j hj).2)) IVM.out.2
            · refine (wpIn_wide (n := 8)).2 ?_
              go_quiet (first | (go_at_call 45; exact Calls.quiet_of_same ((HCO.out _ (HSH.out.drewN _)).mono fun _ _ h => ⟨h.1, h.2.symm⟩)) | (exact Calls.quiet_of_same ((HAC.out _ (HKP.out _)).mono fun _ _ h => ⟨h.1, h.2.symm⟩)))
              gi_wp2_with (apply wpIn_label)
              have IVS := IVM.out.1.skip hk HPV.out (by rw [← HQ.out]; exact hpq) (by rw [← HC.out]; exact HOV.out.trans (decide_eq_false (by omega))) (IT5.out.drewN nq)
              have hle : muA cs n (tr.set k ((p : Int) + 1)) (k + 1) ≤ M0 := Nat.le_of_lt (Nat.lt_of_lt_of_le (muA_skip (cs := cs) hk (by rw [IVM.out.1.tl]; exact hk) HPV.out (by rw [← HQ.out]; exact hpq)) IVM.out.2)
              refine ⟨by first | exact ⟨_, hid ⟨IVS, hle⟩⟩ | exact ⟨rfl, _, hid ⟨IVS, hle⟩⟩, ?_⟩
              simp only [IVS.mu, IVM.out.1.mu, ← List.getD_eq_getElem?_getD]
              rw [getD_set_eq (by rw [IVM.out.1.tl]; exact hk), HPV.out, ← HQ.out]
              omega
        · obtain rfl : p = q := by omega
          have ftr : wr.frozen? ⟨g, k, none⟩ = false := frozen_of_row _ _ _ _ _ IVM.out.1.it.b1
          clear oin
          gi_wp2_with (apply wpIn_label)
          gi_quiet_th (fail)
          gi_wp2_with (apply wpIn_label)
          have IVN := IVM.out.1.none hk HPV.out (by rw [HQ.out]; exact Nat.le_refl _) ((IVM.out.1.it.drewN nq).setTr HNG.out k 0)
          have ez : ((k : Int) - 1 + 1).toNat = k := by omega
          refine ⟨⟨(k : Int) - 1, pre', h, tr.set k 0, ⟨by omega, by omega⟩, rfl, hid ?_⟩, Nat.lt_of_lt_of_eq ?_ HM0.out⟩
          · rw [ez]; exact IVN
          · rw [show (intOf (.int .i64 ((k : Int) - 1)) + 1).toNat = k from ez, IVN.mu]
            exact Nat.lt_of_lt_of_le (muA_none hk 0) IVM.out.2
      --@END
    · have IV1 : Hid (Inv J n0 g (.slice (some ⟨gl, 0, none⟩) n cc) vs cs av n L pre h tr (n + 1) wr) := hid (by have := IV.out; rwa [show ((n : Int) + 1).toNat = n + 1 by omega] at this)
      have HM' : Hid (muA cs n tr (n + 1) = M0) := hid (by rw [HM0.out, IV1.out.mu, show ((n : Int) + 1).toNat = n + 1 by omega])
      clear IV hz0 hz1
      gi_wp2_with (apply wpIn_label)
      refine ⟨trivial, ?_⟩
      refine ((callsIn_wide (n := 7)).2 (cloneHoist_any (some ⟨g + 1, 0, none⟩) n n h IV1.out.hl.symm h1 (by omega) wr (by have := sliceOf_block IV1.out.it.b2; exact this))).mono ?_
      rintro e B ⟨v, rfl, ow, gB⟩
      have hyd : YieldAt Fence.wide 7 Try.prog l #[v] B fun e C => e = .returned (.bool true) ∧ J (g + 2) (pre ++ [(v, h)]) C ∧ Ins n0 (g + 2) B C ∨ e = .returned (.bool false) ∧ Jx (pre ++ [(v, h)]) C := by
        obtain ⟨A, hJ, hA, hO⟩ := IV1.out.it.held
        have hN := HNG.out
        exact HY.out (g + 2) pre (v, h) A B (by omega) hA hJ (hO.trans (Out.ofBelow _ _ gB)) (ow.widen hO.size (Nat.le_refl _)) IV1.out.nx
      obtain ⟨fn, tmps, assign, body, hyr, hR⟩ := hyd
      have HR := hid hR
      have HGB := hid gB
      obtain ⟨k, hkn⟩ : ∃ k, n = k + 1 := ⟨n - 1, by omega⟩
      have hk : k < n := by omega
      have ek : IntKind.i64.wrap ((n : Int) - 1) = (k : Int) := (IntWalk.i64_in _ (by omega)).trans (by omega)
      clear hR gB ow
      have HKN := hid hkn
      clear hkn
      gi_wp2_with (apply wpIn_label)
      refine HR.out.mono ?_
      rintro e wo (⟨rfl, hJ, hin⟩ | ⟨rfl, hJx⟩)
      rotate_left
      · have HJX := hid hJx
        clear hJx
        gi_wp2_with (apply wpIn_label)
        rw [Exit.noGoto_ret]
        refine bodyPost_ret (results_none rfl _ _ _) rfl ?_
        exact ⟨⟨_, rfl⟩, .inr ⟨pre ++ [(v, h)], wo, IV1.out.sp, HJX.out, Below.refl _ _⟩⟩
      have IVk : Hid (Inv J n0 g (.slice (some ⟨gl, 0, none⟩) n cc) vs cs av n L (pre ++ [(v, h)]) h tr (k + 1) wo) := hid (by rw [← HKN.out]; exact IV1.out.top (IV1.out.it.next HNG.out HGB.out hin hJ))
      have HM : Hid (muA cs n tr (k + 1) ≤ M0) := hid (by have := muA_top (cs := cs) (n := n) (tr := tr); rw [HM'.out] at this; rw [← HKN.out]; omega)
      generalize pre ++ [(v, h)] = pre' at *
      clear hJ hin hyr HR HGB IV1 HM'
      gi_wp2_with (apply wpIn_label)
      --@INNER
      gi_loopw [7] (fun i wi => i = .int .i64 k ∧ ∃ tr : List Int, Hid (Inv J n0 g (.slice (some ⟨gl, 0, none⟩) n cc) vs cs av n L pre' h tr (k + 1) wi ∧ muA cs n tr (k + 1) ≤ M0)) (fun i wi => (cs.getD k []).length - ((intsIn wi g).getD k 0).toNat)
      case atStart => exact ⟨rfl, tr, hid ⟨IVk.out, HM.out⟩⟩
      case round =>
        obtain ⟨rfl, tr, IVM⟩ := hrel
        obtain ⟨p, hp, hpl⟩ := IVM.out.1.nat k hk
        have ctr := cell_ints IVM.out.1.it.b1 (i := k) (by rw [IVM.out.1.tl]; exact hk)
        rw [hp] at ctr
        obtain ⟨g', a', c', eg, cch, hvs, oin⟩ := IVM.out.1.it.cho.at_ (i := k) (by rw [CLN.out]; exact hk)
        obtain rfl : gl = g' := by simpa using eg
        have HPV := hid hp
        have hq5 := (CLEN.out k hk).2
        obtain ⟨q, hq⟩ : ∃ q, q = (cs.getD k []).length := ⟨_, rfl⟩
        rw [← hq] at cch oin hpl hq5
        have HQ := hid hq
        clear hq hp eg hvs
        by_cases hpq : p < q
        · obtain ⟨gi, ea, -, cin, -⟩ := oin.at_ (i := p) (by rw [← HQ.out]; exact hpq)
          subst ea
          have hnum := CNUM.out k p hk
          obtain ⟨c, hc⟩ : ∃ c, c = (cs.getD k []).getD p 0 := ⟨_, rfl⟩
          rw [← hc] at cin hnum
          have HC := hid hc
          have ftr : wr.frozen? ⟨g, k, none⟩ = false := frozen_of_row _ _ _ _ _ IVM.out.1.it.b1
          clear hc oin
          gi_wp2_with (apply wpIn_label)
          gi_quiet_th (fail)
          gi_wp2_with (apply wpIn_label)
          gi_quiet_th (fail)
          gi_wp2_with (apply wpIn_label)
          generalize hW5 : World.setCell _ _ _ = W5
          have IT5 : Hid (It J n0 g (.slice (some ⟨gl, 0, none⟩) n cc) vs cs pre' h (tr.set k ((p : Int) + 1)) W5) := hid (by rw [← hW5]; exact (IVM.out.1.it.drewN _).setTr HNG.out k _)
          clear hW5 ctr cch cin ftr
          have HKP : Hid (∀ n, Kp (W5.drewN n)) := hid (fun n => by
            obtain ⟨A, hJ, hA, hO⟩ := IT5.out.held
            exact HST.out A _ _ (HJK.out _ _ _ hJ) (hO.drewN n))
          have HHL := IVM.out.1.hl
          have HTK := hid (show (h.take k).length = k by rw [List.length_take, HHL]; omega)
          have HSH : Hid (SliceOf .i8 W5 (some ⟨g + 1, 0, none⟩) (h.take k)) := hid (fun i hi => by
            rw [HTK.out] at hi
            refine ⟨g + 1, 0, rfl, ?_⟩
            rw [Nat.zero_add, cell_ints IT5.out.b2 (by omega)]
            simp only [List.getD_eq_getElem?_getD, List.getElem?_take, if_pos hi])
          have ch := cell_ints IT5.out.b2 (i := k) (by rw [HHL]; exact hk)
          have fh : W5.frozen? ⟨g + 1, k, none⟩ = false := frozen_of_row _ _ _ _ _ IT5.out.b2
          generalize h.getD k 0 = hk0 at *
          clear HHL
          rcases hnum with rfl | hnum
          · have HOK := hid (show okV av (h.take k) (-10) = true by unfold okV; simp)
            refine (wpIn_wide (n := 8)).2 ?_
            go_quiet (fail)
            gi_wp2_with (apply wpIn_label)
            have IVT := IVM.out.1.take hk HPV.out (by rw [← HQ.out]; exact hpq) (by rw [← HC.out]; exact HOK.out) (by rw [← HC.out]; exact (IT5.out.drewN nq).setH HNG.out k _)
            have ez : ((k : Int) + 1 + 1).toNat = k + 2 := by omega
            refine ⟨⟨(k : Int) + 1, pre', _, _, ⟨by omega, by omega⟩, rfl, hid (by rw [ez]; exact IVT)⟩, Nat.lt_of_lt_of_eq ?_ HM0.out⟩
            rw [show (intOf (.int .i64 ((k : Int) + 1)) + 1).toNat = k + 2 from ez, IVT.mu]
            exact Nat.lt_of_lt_of_le (muA_take hk IVM.out.1.tl HPV.out (by rw [← HQ.out]; exact hpq) (fun j hj => (CLEN.out j hj).2)) IVM.out.2
          · have hne : (c == -10) = false := by simp; omega
            have hba5 := HBA.out _ (HKP.out 0)
            rw [World.drewN_zero] at hba5
            have HCO := hid (fun V (hs : SliceOf .i8 V (some ⟨g + 1, 0, none⟩) (h.take k)) => count_any (some ⟨g + 1, 0, none⟩) k n (h.take k) HTK.out.symm (by omega) c V hs)
            have HAC := hid (fun V (hV : Kp V) => HAV.out V c hV hnum)
            have HOV := hid (show okV av (h.take k) c = decide (occ (h.take k) c k < av c) by unfold okV; rw [HTK.out, decide_eq_false (by omega), Bool.false_or])
            generalize occ (h.take k) c k = o at *
            generalize av c = b at *
            by_cases hob : o < b
            · refine (wpIn_wide (n := 8)).2 ?_
              go_quiet (first | (go_at_call 45; exact Calls.quiet_of_same ((HCO.out _ (HSH.out.drewN _)).mono fun _ _ h => ⟨h.1, h.2.symm⟩)) | (exact Calls.quiet_of_same ((HAC.out _ (HKP.out _)).mono fun _ _ h => ⟨h.1, h.2.symm⟩)))
              gi_wp2_with (apply wpIn_label)
              have IVT := IVM.out.1.take hk HPV.out (by rw [← HQ.out]; exact hpq) (by rw [← HC.out]; exact HOV.out.trans (decide_eq_true hob)) (by rw [← HC.out]; exact (IT5.out.drewN nq).setH HNG.out k _)
              have ez : ((k : Int) + 1 + 1).toNat = k + 2 := by omega
              refine ⟨⟨(k : Int) + 1, pre', _, _, ⟨by omega, by omega⟩, rfl, hid (by rw [ez]; exact IVT)⟩, Nat.lt_of_lt_of_eq ?_ HM0.out⟩
              rw [show (intOf (.int .i64 ((k : Int) + 1)) + 1).toNat = k + 2 from ez, IVT.mu]
              exact Nat.lt_of_lt_of_le (muA_take hk IVM.out.1.tl HPV.out (by rw [← HQ.out]; exact hpq) (fun j hj => (CLEN.out j hj).2)) IVM.out.2
            · refine (wpIn_wide (n := 8)).2 ?_
              go_quiet (first | (go_at_call 45; exact Calls.quiet_of_same ((HCO.out _ (HSH.out.drewN _)).mono fun _ _ h => ⟨h.1, h.2.symm⟩)) | (exact Calls.quiet_of_same ((HAC.out _ (HKP.out _)).mono fun _ _ h => ⟨h.1, h.2.symm⟩)))
              gi_wp2_with (apply wpIn_label)
              have IVS := IVM.out.1.skip hk HPV.out (by rw [← HQ.out]; exact hpq) (by rw [← HC.out]; exact HOV.out.trans (decide_eq_false (by omega))) (IT5.out.drewN nq)
              have hle : muA cs n (tr.set k ((p : Int) + 1)) (k + 1) ≤ M0 := Nat.le_of_lt (Nat.lt_of_lt_of_le (muA_skip (cs := cs) hk (by rw [IVM.out.1.tl]; exact hk) HPV.out (by rw [← HQ.out]; exact hpq)) IVM.out.2)
              refine ⟨by first | exact ⟨_, hid ⟨IVS, hle⟩⟩ | exact ⟨rfl, _, hid ⟨IVS, hle⟩⟩, ?_⟩
              simp only [IVS.mu, IVM.out.1.mu]
              rw [getD_set_eq (by rw [IVM.out.1.tl]; exact hk), HPV.out, ← HQ.out]
              omega
        · obtain rfl : p = q := by omega
          have ftr : wr.frozen? ⟨g, k, none⟩ = false := frozen_of_row _ _ _ _ _ IVM.out.1.it.b1
          clear oin
          gi_wp2_with (apply wpIn_label)
          gi_quiet_th (fail)
          gi_wp2_with (apply wpIn_label)
          have IVN := IVM.out.1.none hk HPV.out (by rw [HQ.out]; exact Nat.le_refl _) ((IVM.out.1.it.drewN nq).setTr HNG.out k 0)
          have ez : ((k : Int) - 1 + 1).toNat = k := by omega
          refine ⟨⟨(k : Int) - 1, pre', h, tr.set k 0, ⟨by omega, by omega⟩, rfl, hid ?_⟩, Nat.lt_of_lt_of_eq ?_ HM0.out⟩
          · rw [ez]; exact IVN
          · rw [show (intOf (.int .i64 ((k : Int) - 1)) + 1).toNat = k from ez, IVN.mu]
            exact Nat.lt_of_lt_of_le (muA_none hk 0) IVM.out.2
      --@END
end Go.Proofs.Ytdighhkgopopeaa
