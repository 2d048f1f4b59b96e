/- meaningsIn: the meanings of a book's phrases. -/
import Derived.Test.YtfaiehjomcgjgaaDoorMeaningAt
import Derived.OwnWalkIn
namespace Go.Proofs.YtfaiehjomcgjgaaDoor
set_option linter.unusedVariables false
open Go.RowKit
attribute [local go_sem] Oper.semAt_some
/-- An append to a row of the call's own, inside a round: where the row lies then. -/
theorem listIn_append_lies {F : Fence} {d : Nat} {P : Program} (w : World) {ops : Array Oper} {rest : List Oper} {o : Oper} {a : Act} {Q : Exit → Act → World → Prop} (hgd : o.guard = none) (s x : Operand) (t : TypeId)
    (ho : o.op = .call { callee := .builtin .append, args := #[s, x], argTypes := #[t, t] }) (base : Nat) (e : TypeId) (i : TypeInfo) (z : Value) (size bytes : Nat)
    (ht : P.underlying t = some (.slice e)) (hi : P.info? e = some i) (hz : i.zero = some z) (hsize : i.size = size) (hby : i.bytes = bytes) (hzs : z.cells.size = size) (hsz : 0 < size)
    (v : Value) (n : Nat) (xs : List Value) (hs : a.eval s = v) (hown : w.ownsRow base e size v n xs) (ad : Addr) (m c : Nat) (news : List Value) (hx : a.eval x = .slice (some ad) m c) (hl : news.length = m * size)
    (hnews : ∀ j u, news[j]? = some u → w.cell? (ad.add j) = some u) (h1 : ∀ u ∈ news, u.oneCell' = true) (hm : 0 < m) (h63 : n + m ≤ maxLen) (hbytes : (n + m) * bytes ≤ 140737488355328) (hbase : base ≤ w.heap.size) (H : Nat) (hH : w.heap.size = H)
    (h : ∀ g cap w', w'.ownsRow base e size (.slice (some ⟨g, 0, none⟩) (n + m) cap) (n + m) (xs ++ news) → w.grownBy w' v.ownBlock → (v.ownBlock = some g ∨ g = H) → g < w'.heap.size → wpListIn F d P ops Q rest (a.put o.dst (.slice (some ⟨g, 0, none⟩) (n + m) cap)) w') :
    wpListIn F d P ops Q (o :: rest) a w := by
  refine wpListIn_plain hgd fun K hK => ?_
  obtain ⟨g, cap, w', hr, r2, r3, r4, r5⟩ := run_append_lies (P := P) w t o.type base e i z size bytes ht hi hz hsize hby hzs hsz v n xs hown ad m c news hl hnews h1 hm h63 hbytes hbase H hH
  unfold Oper.wpIn
  refine ⟨by simp [Oper.about, ho, resolve, Target.leads, Sem.run_pure], ?_⟩
  rw [Oper.semAt_plain F _ _ (by rw [ho]; intro c hc'; cases hc')]
  simp [execOp, ho, resolve, invoke, builtin, hs, hx, hr, Result.andThen]
  exact hK _ _ (h g cap w' r2 r3 r4 r5)
/-- The blocks of a row and of its places. -/
def Bks (v : Value) (vs : List Value) (b : Nat) : Prop := v.ownBlock = some b ∨ ∃ (i : Nat) (u : Value), vs[i]? = some u ∧ u.ownBlock = some b
theorem ownsRow_move {A V : World} {lo n : Nat} {v : Value} {e : TypeId} {size : Nat} {xs : List Value} (h : A.ownsRow lo e size v n xs) (hk : ∀ b, v.ownBlock = some b → V.heap[b]? = A.heap[b]?) : V.ownsRow lo e size v n xs := by
  refine ⟨h.1, ?_⟩
  rcases h.2 with h4 | ⟨g', cap, cur, h4, h5, h6, r⟩
  · exact .inl h4
  · exact .inr ⟨g', cap, cur, h4, h5, (hk g' (by rw [h4]; rfl)).trans h6, r⟩
theorem RowQ.move {A V : World} {lo : Nat} {v : Value} {vs : List Value} {xss : List (List Int)} (h : RowQ A lo v vs xss) (hk : ∀ b, Bks v vs b → V.heap[b]? = A.heap[b]?) : RowQ V lo v vs xss := by
  refine ⟨ownsRow_move h.row fun b hb => hk b (.inl hb), fun i hi => ?_⟩
  obtain ⟨g, c, h1, h2⟩ := h.each i hi
  exact ⟨g, c, h1, ownsRow_move h2 fun b hb => hk b (.inr ⟨i, _, h1, hb⟩)⟩
theorem RowQ.blocks {A : World} {lo : Nat} {v : Value} {vs : List Value} {xss : List (List Int)} (h : RowQ A lo v vs xss) {b : Nat} (hb : Bks v vs b) : lo ≤ b ∧ b < A.heap.size := by
  rcases hb with hb | ⟨i, u, hi, hb⟩
  · exact h.row.lt b hb
  · have hil : i < xss.length := by
      have := (List.getElem?_eq_some_iff.1 hi).1
      rw [h.vlen] at this; exact this
    obtain ⟨g, c, h1, h2⟩ := h.each i hil
    rw [h1] at hi
    cases hi
    exact h2.lt b hb
theorem Bks.snoc {v v' u : Value} {vs : List Value} {b : Nat} (h : Bks v' (vs ++ [u]) b) : v'.ownBlock = some b ∨ u.ownBlock = some b ∨ Bks v vs b := by
  rcases h with h | ⟨i, x, hi, hb⟩
  · exact .inl h
  · by_cases hlt : i < vs.length
    · rw [List.getElem?_append_left hlt] at hi
      exact .inr (.inr (.inr ⟨i, x, hi, hb⟩))
    · rw [List.getElem?_append_right (by omega)] at hi
      have := (List.getElem?_eq_some_iff.1 hi).1
      have h0 : i - vs.length = 0 := by simp at this; omega
      rw [h0] at hi
      cases hi
      exact .inr (.inl hb)
theorem heap_kept_eq {W : World} {o : Obj} {k : Nat} (hk : k < W.heap.size) : (W.alloc o).heap[k]? = W.heap[k]? := by
  obtain ⟨x, hx⟩ : ∃ x, W.heap[k]? = some x := ⟨_, Array.getElem?_eq_getElem hk⟩
  rw [hx]; exact heap_kept hx
/-- What the rounds keep: the book, the scheme, the row so far. -/
structure RkM (w : World) (z sb n : Nat) (bk sc : Array Value) (lim : Nat) (own : Nat → Prop) (pre : List YldG) (V : World) : Prop where
  low : ∀ k, own k → lim ≤ k ∧ k < V.heap.size
  hb : V.heap[z]? = some (.cells bk 31 (0, 0))
  hs : V.heap[sb]? = some (.cells sc 67 (0, 0))
  gr : Gr w V
  le : pre.length ≤ n
  ro : ∃ a cap vs, V.heap[z + 1]? = some (.cells #[.slice a pre.length cap] 56 (0, 0)) ∧ RowQ V lim (.slice a pre.length cap) vs (msG pre) ∧ ∀ b, Bks (.slice a pre.length cap) vs b → ¬ own b
theorem RkM.chg {w : World} {z sb n lim : Nat} {bk sc : Array Value} {own : Nat → Prop} {pre : List YldG} {A V W4 : World} (h : RkM w z sb n bk sc lim own pre A) (hc : Chg (andLoop W4 own) A V) (hlim : lim = W4.heap.size + 2) (hz : z + 1 < W4.heap.size) (hsb : sb < W4.heap.size) (hw : w.heap.size ≤ W4.heap.size) :
    V.heap[z]? = some (.cells bk 31 (0, 0)) ∧ V.heap[sb]? = some (.cells sc 67 (0, 0)) ∧ Gr w V ∧
      ∃ a cap vs, V.heap[z + 1]? = some (.cells #[.slice a pre.length cap] 56 (0, 0)) ∧ RowQ V lim (.slice a pre.length cap) vs (msG pre) ∧ ∀ b, Bks (.slice a pre.length cap) vs b → ¬ own b ∧ lim ≤ b ∧ b < A.heap.size := by
  have key : ∀ k, k < W4.heap.size → ¬ andLoop W4 own k := fun k hk hn => by
    rcases hn with hn | hn
    · have := (h.low k hn).1; omega
    · omega
  obtain ⟨a, cap, vs, h1, h2, h3⟩ := h.ro
  refine ⟨hc.heap h.hb (key _ (by omega)), hc.heap h.hs (key _ hsb), ?_, a, cap, vs, hc.heap h1 (key _ hz), h2.move fun b hb => ?_, fun b hb => ⟨h3 b hb, h2.blocks hb⟩⟩
  · have hb : Below w.heap.size A V := ⟨hc.os, hc.tape, hc.output, hc.size, fun k hk => hc.block k (Nat.lt_of_lt_of_le hk h.gr.size) (key k (by omega))⟩
    exact Below.trans h.gr hb
  · have hl := h2.blocks hb
    exact hc.block b hl.2 fun hn => by
      rcases hn with hn | hn
      · exact h3 b hb hn
      · omega
theorem msG_take {pre : List YldG} {n : Nat} {L : List (List Int)} (h : ∃ r, msG pre ++ r = L) (hn : pre.length = n) : L.take n = msG pre := by
  obtain ⟨r, rfl⟩ := h
  rw [List.take_append_of_le_length (by rw [msG_length]; omega), List.take_of_length_le (by rw [msG_length]; omega)]
theorem meanIn_end {w V : World} {l cap n : Nat} {a : Option Addr} {vs : List Value} {pre : List YldG} {L : List (List Int)} (hn : pre.length = n) (ht : L.take n = msG pre) (hq : RowQ V (l + 2) (.slice a pre.length cap) vs (msG pre)) (g : Gr w V) (hl : w.heap.size ≤ l) (_h2 : 0 ≤ l) :
    RowQ (V.putObj l (.deferred none)) w.heap.size (.slice a pre.length cap) vs (L.take n) ∧ Gr w (V.putObj l (.deferred none)) := by
  rw [ht]
  have h1 := hq.move (V := V.putObj l (.deferred none)) (fun b hb => World.putObj_heap_other (by have := (hq.blocks hb).1; omega))
  exact ⟨⟨ownsRow_lower h1.row (by omega), fun i hi => by obtain ⟨g, c, h2, h3⟩ := h1.each i hi; exact ⟨g, c, h2, ownsRow_lower h3 (by omega)⟩⟩, Gr_putObj g hl _⟩
/-- A round that appends. -/
theorem RkM.pushed {w : World} {z sb n lim : Nat} {bk sc : Array Value} {own' : Nat → Prop} {pre : List YldG} {V w5 W4 : World} {r g ca g5 c5 : Nat} {m : List Int} {a0 : Option Addr} {cap0 : Nat} {vs : List Value} (hlim : lim = W4.heap.size + 2) (hz : z + 1 < W4.heap.size) (hsb : sb < W4.heap.size) (hw : w.heap.size ≤ z)
    (low : ∀ k, own' k → lim ≤ k ∧ k < V.heap.size) (hb : V.heap[z]? = some (.cells bk 31 (0, 0))) (hs : V.heap[sb]? = some (.cells sc 67 (0, 0))) (gr : Gr w V) (hr : r = pre.length) (hlt : r < n)
    (hbx : V.heap[z + 1]? = some (.cells #[.slice a0 r cap0] 56 (0, 0))) (hq : RowQ V lim (.slice a0 r cap0) vs (msG pre)) (hav : ∀ b, Bks (.slice a0 r cap0) vs b → ¬ own' b)
    (hrow : V.ownsRow lim 22 1 (.slice (some ⟨g, 0, none⟩) m.length ca) m.length (m.map (Value.int .i8))) (hng : ¬ own' g)
    (hrow5 : w5.ownsRow lim 59 1 (.slice (some ⟨g5, 0, none⟩) (r + 1) c5) (r + 1) (vs ++ [.slice (some ⟨g, 0, none⟩) m.length ca]))
    (hg5 : (V.alloc (.cells #[.slice (some ⟨g, 0, none⟩) m.length ca] 59)).grownBy w5 (Value.slice a0 r cap0).ownBlock) (hor : (Value.slice a0 r cap0).ownBlock = some g5 ∨ g5 = V.heap.size + 1) :
    w5.heap[z + 1]? = some (.cells #[.slice a0 r cap0] 56 (0, 0)) ∧ Keep (andLoop W4 own') V (w5.setCell ⟨z + 1, 0, none⟩ (.slice (some ⟨g5, 0, none⟩) (r + 1) c5)) ∧ RkM w z sb n bk sc lim own' (pre ++ [(r, .slice (some ⟨g, 0, none⟩) m.length ca, m)]) (w5.setCell ⟨z + 1, 0, none⟩ (.slice (some ⟨g5, 0, none⟩) (r + 1) c5)) := by
  subst hr
  have hold : ∀ b, (Value.slice a0 pre.length cap0).ownBlock = some b → lim ≤ b ∧ b < V.heap.size ∧ ¬ own' b := fun b hb => ⟨(hq.blocks (.inl hb)).1, (hq.blocks (.inl hb)).2, hav b (.inl hb)⟩
  have keep : ∀ k, k < V.heap.size → (Value.slice a0 pre.length cap0).ownBlock ≠ some k → w5.heap[k]? = V.heap[k]? := fun k hk hne => by
    rw [hg5.block k (by simp; omega) (fun e => hne e.symm)]
    exact heap_kept_eq hk
  have hsz5 : V.heap.size + 1 ≤ w5.heap.size := by have := hg5.size; simpa using this
  have hbx5 : w5.heap[z + 1]? = some (.cells #[.slice a0 pre.length cap0] 56 (0, 0)) := (keep _ (lt_of_heap hbx) (fun e => by have := (hold _ e).1; omega)).trans hbx
  have hsn := (hq.alloc_ (.cells #[.slice (some ⟨g, 0, none⟩) m.length ca] 59)).snoc (v' := .slice (some ⟨g5, 0, none⟩) (pre.length + 1) c5) (hrow.alloc _) (by rw [msG_length]; exact hrow5) hg5
  have hge := hrow.lt g rfl
  refine ⟨hbx5, ⟨?_, fun k hk => ?_⟩, ⟨fun k hk => ⟨(low k hk).1, ?_⟩, ?_, ?_, ?_, ?_, ?_⟩⟩
  · rw [World.size_setCell]; omega
  · have hkn : k < V.heap.size := by
      rcases hk with hk | hk
      · exact (low k hk).2
      · have := lt_of_heap hbx
        have := gr.size
        by_cases hx : k < V.heap.size
        · exact hx
        · exact absurd hk (by have := hge.1; have := hge.2; omega)
    have hkz : k ≠ z + 1 := by
      rcases hk with hk | hk
      · have := (low k hk).1; omega
      · omega
    rw [setCell_at (by dsimp only; exact hkz)]
    refine keep k hkn fun e => ?_
    obtain ⟨h1, h2, h3⟩ := hold k e
    rcases hk with hk | hk
    · exact h3 hk
    · omega
  · rw [World.size_setCell]; have := (low k hk).2; omega
  · rw [setCell_at (by dsimp only; omega)]; exact (keep _ (lt_of_heap hb) (fun e => by have := (hold _ e).1; omega)).trans hb
  · by_cases he : sb = z + 1
    · subst he; rw [hbx] at hs; simp at hs
    · rw [setCell_at (by dsimp only; exact he)]; exact (keep _ (lt_of_heap hs) (fun e => by have := (hold _ e).1; omega)).trans hs
  · refine Gr.setCell ?_ (by dsimp only; omega) _
    exact ((gr.alloc (.cells #[.slice (some ⟨g, 0, none⟩) m.length ca] 59))).by_ hg5 (fun b hb => by have := (hold b hb).1; omega)
  · rw [List.length_append, List.length_singleton]; omega
  · refine ⟨some ⟨g5, 0, none⟩, c5, vs ++ [.slice (some ⟨g, 0, none⟩) m.length ca], ?_, ?_, ?_⟩
    · rw [heap_setCell_same _ _ 0 _ _ _ hbx5, List.length_append, List.length_singleton]; rfl
    · rw [msG_snoc, List.length_append, List.length_singleton]
      refine hsn.move fun b hb => setCell_at ?_
      have := (hsn.blocks hb).1
      dsimp only; omega
    · intro b hb hbo
      rcases hb.snoc (v := .slice a0 pre.length cap0) with h1 | h1 | h1
      · simp only [Value.ownBlock, Option.some.injEq] at h1
        subst h1
        rcases hor with h2 | h2
        · exact (hold _ h2).2.2 hbo
        · have := (low _ hbo).2; omega
      · simp only [Value.ownBlock, Option.some.injEq] at h1
        subst h1
        exact hng hbo
      · exact hav b h1 hbo
set_option maxHeartbeats 8000000 in
set_option maxRecDepth 100000 in
theorem meaningsIn_any (K L B : Nat) (k1 : 1 ≤ K) (k2 : K ≤ 10) (l2 : L ≤ 3) (b2 : B ≤ 4) (a : Option Addr) (cap n : Nat) (hn : n ≤ (bookL K B L).length) (w : World) :
    Calls Tryd.prog 44 #[bookV (K : Int) (L : Int) (B : Int) (.slice a n cap)] w fun e w' => ∃ a' cap' vs, e = .returned (.slice a' n cap') ∧ RowQ w' w.heap.size (.slice a' n cap') vs ((bookL K B L).take n) ∧ Gr w w' := by
  have hbd := book_bd (B := B) k2 l2
  have HN := hid hn
  have hn3 : n ≤ 3000 := by omega
  have HSO := hid (fun V => book_schemeOf (K : Int) (L : Int) (B : Int) (.slice a n cap) V)
  obtain ⟨W0, hW0⟩ : ∃ W0, W0 = (w.alloc (.cells (bookC K L B (.slice a n cap)) 31)).alloc (.cells #[.slice none 0 0] 56) := ⟨_, rfl⟩
  have G0 : Hid (Gr w W0) := hid (by rw [hW0]; exact ((Gr.refl w).alloc _).alloc _)
  have B0 : Hid (W0.heap[w.heap.size]? = some (.cells (bookC K L B (.slice a n cap)) 31 (0, 0))) := hid (by rw [hW0]; exact heap_kept (heap_new rfl))
  have B1 : Hid (W0.heap[w.heap.size + 1]? = some (.cells #[.slice none 0 0] 56 (0, 0))) := hid (by rw [hW0]; exact heap_new (by simp))
  have Z0 : Hid (W0.heap.size = w.heap.size + 2) := hid (by rw [hW0]; simp)
  have HW0 := hid hW0
  obtain ⟨q0, qi, qz0, qz1, qz2⟩ := info_parts infoMn
  clear hW0 hn hbd
  refine (callsIn_wide (n := 9)).1 (callsIn_of_wp_marks Tryd.func44 rfl trivial (wpIn_wide.2 ?_) rfl)
  simp only [Tryd.ntmps44, List.size_toArray, List.length_cons, List.length_nil, Nat.reduceAdd, Nat.reduceSub, Array.replicate_succ, Array.replicate_zero, List.push_toArray, List.append_toArray, List.nil_append, List.cons_append]
  go_wp2_with fail
  rw [← HW0.out]
  obtain ⟨d0, d1, d2, d3⟩ := bk_cells B0.out
  go_wp2_with fail
  refine (HSO.out _).mono ?_
  rintro e w3 ⟨rfl, g3⟩
  have G3 := hid g3
  clear g3 d0 d1 d2 d3
  go_wp2_with fail
  refine (meanings_any K L B _).mono ?_
  rintro e W4 ⟨rfl, hW4⟩
  have G4 : Hid (Gr W0 W4) := hid (by rw [hW4]; exact G3.out.alloc _)
  have S4 : Hid (W4.heap[w3.heap.size]? = some (.cells (schC K L B) 67 (0, 0))) := hid (by rw [hW4]; exact heap_new rfl)
  have Z4 : Hid (W4.heap.size = w3.heap.size + 1) := hid (by rw [hW4]; simp)
  have ZL : Hid (w.heap.size + 2 ≤ w3.heap.size) := hid (by have := G3.out.size; rw [Z0.out] at this; exact this)
  clear hW4
  go_wp2_with fail
  refine wp_rangeFunc_G (lb := #[.pointer (some ⟨w3.heap.size, 0, none⟩)]) (gf := 89) rfl (callFunc_enter Tryd.func89 (by kernel_rfl) (by kernel_rfl))
    (Kp := fun V => V.heap[w3.heap.size]? = some (.cells (schC K L B) 67 (0, 0))) (Ok := OkG (W4.heap.size + 2))
    (fun W' hb hz => by
      have := meanings_iter K L B k1 k2 l2 b2 w3.heap.size _ W' (fun V h => h) (by have := Z4.out; omega) ((hb.block _ (lt_of_heap S4.out)).trans S4.out)
      rw [hz] at this
      exact this)
    (fun A' B' h ho => ho.heap h (.inl (by have := Z4.out; omega)))
    (fun own B' C x h ho => h.out ho (Nat.le_refl _)) (fun _ => rfl)
    (fun own pre V => RkM w w.heap.size w3.heap.size n (bookC K L B (.slice a n cap)) (schC K L B) (W4.heap.size + 2) own pre V)
    (fun cd own pre C => cd = .exit 0 ∧ ∃ pre0 x, pre = pre0 ++ [x] ∧ pre0.length = n ∧ RkM w w.heap.size w3.heap.size n (bookC K L B (.slice a n cap)) (schC K L B) (W4.heap.size + 2) own pre0 C)
    (fun own pre V h => ⟨h.hs, h.low⟩)
    ?init ?a1 ?assign ?body ?done ?stop
  case assign =>
    intro l' x V KK hK
    gi_wp2
    exact hK
  case init =>
    intro own V hown hb hz4
    refine ⟨hown, ?_, ?_, G0.out.trans (G4.out.trans hb), Nat.zero_le _, none, 0, [], ?_, ⟨World.ownsRow_nil _ _ _ _, fun i hi => by simp [msG] at hi⟩, fun b hb => ?_⟩
    · exact (hb.block _ (lt_of_heap (G4.out.heap B0.out))).trans (G4.out.heap B0.out)
    · exact (hb.block _ (lt_of_heap S4.out)).trans S4.out
    · exact (hb.block _ (lt_of_heap (G4.out.heap B1.out))).trans (G4.out.heap B1.out)
    · rcases hb with hb | ⟨i, u, hi, _⟩
      · simp [Value.ownBlock] at hb
      · simp at hi
  case body =>
    rintro l' own own' pre ⟨r, v, m'⟩ A V hI hchg hsub hzV hok hnx
    have hz4 := Z4.out
    have hzl := ZL.out
    obtain ⟨v0, vs, gV, a0, cap0, us, vb, hq, hav⟩ := hI.chg (W4 := W4) hchg rfl (by omega) (by omega) (by omega)
    obtain ⟨g, ca, hv, hrow, hng⟩ := hok
    dsimp only at hv hrow
    subst hv
    obtain ⟨hr, rest, hrest⟩ := hnx
    dsimp only at hr hrest
    have hle := hI.le
    rw [← hr] at vb hq hav hle
    have hlow : ∀ k, own' k → W4.heap.size + 2 ≤ k ∧ k < V.heap.size := fun k hk => ⟨(hsub k hk).2.2, (hsub k hk).2.1⟩
    have hav' : ∀ b, Bks (.slice a0 r cap0) us b → ¬ own' b := fun b hb hk => by
      obtain ⟨h1, h2, h3⟩ := hav b hb
      rcases (hsub b hk).1 with h4 | h4
      · exact h1 h4
      · omega
    have HPU := hid (fun w5 g5 c5 hlt hrow5 hg5 hor => RkM.pushed (w := w) (z := w.heap.size) (sb := w3.heap.size) (n := n) (W4 := W4) (own' := own') (pre := pre) (V := V) (w5 := w5) (g5 := g5) (c5 := c5) (lim := W4.heap.size + 2) rfl (by omega) (by omega) (Nat.le_refl _) hlow v0 vs gV hr hlt vb hq hav' hrow hng hrow5 hg5 hor)
    have HST := hid (show pre.length = n → RkM w w.heap.size w3.heap.size n (bookC K L B (.slice a n cap)) (schC K L B) (W4.heap.size + 2) own' pre V from fun h => ⟨hlow, v0, vs, gV, Nat.le_of_eq h, a0, cap0, us, by rw [← hr]; exact vb, by rw [← hr]; exact hq, by rw [← hr]; exact hav'⟩)
    have HR := hid hr
    have HROW := hid hq.row
    have hml : (msG pre).length = r := by rw [msG_length, hr]
    rw [hml] at HROW
    have hgz := (ownsRow_ge hrow)
    have HGZ := hid hgz
    have c1 := cell0 vb
    obtain ⟨d0, d1, d2, d3⟩ := bk_cells v0
    clear hav hav' hlow hrest rest hng hrow hsub hchg hI hq v0 vs gV hr hzV hml hgz hz4
    by_cases he : r = n
    · have HE := hid he
      have ht : ((r : Int) == (n : Int)) = true := by simp [he]
      clear he HPU
      gi_wp2_with fail
      exact ⟨Keep.refl _ _, rfl, pre, _, rfl, HR.out.symm.trans HE.out, HST.out (HR.out.symm.trans HE.out)⟩
    · have hlt : r < n := by omega
      have ht : ((r : Int) == (n : Int)) = false := by simp; omega
      have hd : decide (r = n) = false := decide_eq_false he
      have HL2 := hid hlt
      have hf1 : ∀ w5 : World, w5.heap[w.heap.size + 1]? = some (.cells #[.slice a0 r cap0] 56 (0, 0)) → w5.frozen? ⟨w.heap.size + 1, 0, none⟩ = false := fun w5 h => frozen_of_row _ _ _ _ _ h
      have HF1 := hid hf1
      clear he hf1 HST
      obtain ⟨q', hq'⟩ : ∃ q, q = m'.length := ⟨_, rfl⟩
      rw [← hq'] at HPU ⊢
      have HQ' := hid hq'
      clear hq' vb
      gi_wp2_with (gi_at_builtin; refine listIn_append_lies _ rfl _ _ 56 rfl (W4.heap.size + 2) 59 q0 (.slice none 0 0) 1 24 Tryd.underlying56 qi qz0 qz1 qz2 rfl (by decide) _ _ _ rfl (HROW.out.alloc _) ⟨V.heap.size, 0, none⟩ 1 1 [.slice (some ⟨g, 0, none⟩) q' ca] rfl rfl (cell_q1 _ _ _) (by simp [Value.oneCell']) (by omega) (by unfold maxLen; omega) (by omega) (by have := HGZ.out; simp; omega) (V.heap.size + 1) (by simp) ?_)
      intro g5 c5 w5 hrow5 hg5 hor5 hl5
      obtain ⟨p1, p2, p3⟩ := HPU.out w5 g5 c5 HL2.out hrow5 hg5 hor5
      have p4 := cell0 p1
      have p5 := HF1.out w5 p1
      have P2 := hid p2
      have P3 := hid p3
      clear hrow5 hg5 hor5 hl5 p1 p2 p3 HPU c1 d0 d1 d2 d3
      gi_wp2_with fail
      exact ⟨P2.out, P3.out⟩
  case done =>
    intro own xs A V hS hI hchg hd
    have hz4 := Z4.out
    have hzl := ZL.out
    obtain ⟨v0, vs, gV, a0, cap0, us, vb, hq, hav⟩ := hI.chg (W4 := W4) hchg rfl (by omega) (by omega) (by omega)
    have hS' : msG xs = bookL K B L := hS
    have hxn : xs.length = n := by
      have h1 := hI.le
      have h2 := HN.out
      rw [← hS', msG_length] at h2
      omega
    have hR := meanIn_end (w := w) (l := W4.heap.size) hxn (msG_take (L := bookL K B L) ⟨[], by rw [List.append_nil]; exact hS'⟩ hxn) hq gV (by omega) (by omega)
    rw [hxn] at vb hR
    have HQ := hid hR
    have c1 := cell0 vb
    have HD := hid hd
    clear v0 vs gV vb hq hav hS hS' hI hchg hd hxn hR hz4
    go_wp2_with fail
    exact leaves_mark HD.out (results_tmp rfl _ _ _) ⟨_, _, _, rfl, HQ.out⟩
  case stop =>
    rintro cd own pre A V hsp ⟨rfl, pre0, x, rfl, hxn, hI⟩ hown hchg hd
    have hz4 := Z4.out
    have hzl := ZL.out
    obtain ⟨v0, vs, gV, a0, cap0, us, vb, hq, hav⟩ := hI.chg (W4 := W4) hchg rfl (by omega) (by omega) (by omega)
    obtain ⟨rest, hrest⟩ := hsp
    rw [msG_snoc, List.append_assoc] at hrest
    have hR := meanIn_end (w := w) (l := W4.heap.size) hxn (msG_take ⟨_, hrest⟩ hxn) hq gV (by omega) (by omega)
    rw [hxn] at vb hR
    have HQ := hid hR
    have c1 := cell0 vb
    have HD := hid hd
    clear v0 vs gV vb hq hav hrest hI hchg hd hxn hR hz4 hown
    go_wp2_with fail
    exact leaves_mark HD.out (results_tmp rfl _ _ _) ⟨_, _, _, rfl, HQ.out⟩
end Go.Proofs.YtfaiehjomcgjgaaDoor
