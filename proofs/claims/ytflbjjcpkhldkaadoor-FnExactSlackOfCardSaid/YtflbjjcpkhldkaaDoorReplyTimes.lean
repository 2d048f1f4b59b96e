/- attempt and reply, for one kind of what is told. -/
import Derived.Test.YtflbjjcpkhldkaaDoorErrV
import Derived.Test.YtflbjjcpkhldkaaDoorErrF
import Derived.Test.YtflbjjcpkhldkaaDoorErrN
import Derived.Test.YtflbjjcpkhldkaaDoorLineH
import Derived.Test.YtflbjjcpkhldkaaDoorLineA
import Derived.Deep.RegionHeld3
import Derived.Defers
import Derived.Recover
namespace Go.Proofs.YtflbjjcpkhldkaaDoor
open Go.RowKit
theorem catch_Times (p : Addr) (w : World) :
    CallsD Tryd.prog 122 #[.pointer (some p)] .returning w fun e u' w' => e = .returned (.tuple #[]) ∧ u' = .returning ∧ w' = w := by
  refine callsD_of_wpS Tryd.func122 rfl fun c₀ cs hu => ?_
  apply wpS_seq
  apply wpS_region
  simp [wpOpsS, go_sem, recoverD, hu, Tryd.ntmps122, Exit.thenS]
  have ht : (#[Value.pointer (some p)] ++ ((Array.replicate 14 undef).setIfInBounds 3 Value.nilIface).setIfInBounds 0 Value.nilIface) = #[Value.pointer (some p), .nilIface, undef, undef, .nilIface, undef, undef, undef, undef, undef, undef, undef, undef, undef, undef] := rfl
  rw [ht]
  have hn : ∀ w : World, (binOp BinOp.neq 20 .nilIface .nilIface).run Tryd.prog w = .ok (.bool false) w := fun _ => by kernel_rfl
  have hta : ∀ w : World, (Instr.typeAssert .nilIface 20 135 true).run Tryd.prog w = .ok (.tuple #[.nilIface, .bool false]) w := fun _ => by kernel_rfl
  refine wpS_of_wp ?_
  go_wp2
  cases c₀
  simp_all [bodyPostS, results, Tryd.results122]
set_option maxRecDepth 100000 in
set_option maxHeartbeats 1000000 in
theorem att_Times_nil (K : FuncId) (caps : Array Value) (R : Value → World → Prop) (w : World) (hK : ∀ (args : Array Value) (w : World), (callFunc K args).run Tryd.prog w = .ok (.enter K args) w)
    (hR : ∀ v w1 w2, w1.grownBy w2 (some w.heap.size) → R v w1 → R v w2)
    (HC : Calls Tryd.prog K caps (w.alloc (.cells #[.nilIface] 65)) fun e w' => ∃ v, e = .returned (.tuple #[v, .nilIface]) ∧ R v w' ∧ Gr (w.alloc (.cells #[.nilIface] 65)) w') :
    Calls Tryd.prog 112 #[.func (.func K) #[] caps] w fun e w' => ∃ v, e = .returned (.tuple #[v, .nilIface]) ∧ R v w' ∧ Gr w w' := by
  have hmf : ∀ (fn : Fn) (first cap : Array Value) (w : World), (Instr.makeFunc fn first cap).run Tryd.prog w = .ok (.func fn first cap) w := fun _ _ _ _ => rfl
  have hc := hid HC
  have hr := hid hR
  have B0 := hid (heap_new (w := w) (o := .cells #[.nilIface] 65) rfl)
  have G0 := hid ((Gr.refl w).alloc (.cells #[.nilIface] 65))
  clear HC hR
  go_enter_defers Tryd.func112, Tryd.ntmps112
  go_wp2_with fail
  refine hc.out.mono ?_
  rintro e w1 ⟨v, rfl, r1, g1⟩
  have R1 := hid r1
  have G1 := hid (G0.out.trans g1)
  have hb1 := g1.heap B0.out
  have hc1 : w1.cell? ⟨w.heap.size, 0, none⟩ = some .nilIface := by rw [cell_of_row _ _ _ _ _ _ hb1]; rfl
  have hf1 : w1.frozen? ⟨w.heap.size, 0, none⟩ = false := frozen_of_row _ _ _ _ _ hb1
  clear g1 hb1 r1
  go_wp2_with fail
  refine leaves_cons (f := 122) (args := #[.pointer (some ⟨w.heap.size, 0, none⟩)]) (by simp) (by simp [go_sem]) ?_
  refine (catch_Times ⟨w.heap.size, 0, none⟩ _).mono ?_
  rintro e u' w'' ⟨rfl, rfl, rfl⟩
  have hc2 := World.cell?_setCell_same w1 ⟨w.heap.size, 0, none⟩ (.nilIface) hc1
  have gh : w1.grownBy (w1.setCell ⟨w.heap.size, 0, none⟩ (.nilIface)) (some w.heap.size) := ⟨rfl, rfl, rfl, by rw [World.size_setCell]; exact Nat.le_refl _, fun k _ hk => heap_setCell_other w1 _ k _ (fun e => hk (by rw [e]))⟩
  refine ⟨.tuple #[v, .nilIface], ?_, v, rfl, hr.out _ _ _ gh R1.out, G1.out.setCell (Nat.le_refl _) _⟩
  simp [results, Tryd.results112, go_sem, hc2]
set_option maxRecDepth 100000 in
set_option maxHeartbeats 1000000 in
theorem att_Times_iface (t : TypeId) (x : Value) (K : FuncId) (caps : Array Value) (R : Value → World → Prop) (w : World) (hK : ∀ (args : Array Value) (w : World), (callFunc K args).run Tryd.prog w = .ok (.enter K args) w)
    (hR : ∀ v w1 w2, w1.grownBy w2 (some w.heap.size) → R v w1 → R v w2)
    (HC : Calls Tryd.prog K caps (w.alloc (.cells #[.nilIface] 65)) fun e w' => ∃ v, e = .returned (.tuple #[v, .iface t x]) ∧ R v w' ∧ Gr (w.alloc (.cells #[.nilIface] 65)) w') :
    Calls Tryd.prog 112 #[.func (.func K) #[] caps] w fun e w' => ∃ v, e = .returned (.tuple #[v, .iface t x]) ∧ R v w' ∧ Gr w w' := by
  have hmf : ∀ (fn : Fn) (first cap : Array Value) (w : World), (Instr.makeFunc fn first cap).run Tryd.prog w = .ok (.func fn first cap) w := fun _ _ _ _ => rfl
  have hc := hid HC
  have hr := hid hR
  have B0 := hid (heap_new (w := w) (o := .cells #[.nilIface] 65) rfl)
  have G0 := hid ((Gr.refl w).alloc (.cells #[.nilIface] 65))
  clear HC hR
  go_enter_defers Tryd.func112, Tryd.ntmps112
  go_wp2_with fail
  refine hc.out.mono ?_
  rintro e w1 ⟨v, rfl, r1, g1⟩
  have R1 := hid r1
  have G1 := hid (G0.out.trans g1)
  have hb1 := g1.heap B0.out
  have hc1 : w1.cell? ⟨w.heap.size, 0, none⟩ = some .nilIface := by rw [cell_of_row _ _ _ _ _ _ hb1]; rfl
  have hf1 : w1.frozen? ⟨w.heap.size, 0, none⟩ = false := frozen_of_row _ _ _ _ _ hb1
  clear g1 hb1 r1
  go_wp2_with fail
  refine leaves_cons (f := 122) (args := #[.pointer (some ⟨w.heap.size, 0, none⟩)]) (by simp) (by simp [go_sem]) ?_
  refine (catch_Times ⟨w.heap.size, 0, none⟩ _).mono ?_
  rintro e u' w'' ⟨rfl, rfl, rfl⟩
  have hc2 := World.cell?_setCell_same w1 ⟨w.heap.size, 0, none⟩ (.iface t x) hc1
  have gh : w1.grownBy (w1.setCell ⟨w.heap.size, 0, none⟩ (.iface t x)) (some w.heap.size) := ⟨rfl, rfl, rfl, by rw [World.size_setCell]; exact Nat.le_refl _, fun k _ hk => heap_setCell_other w1 _ k _ (fun e => hk (by rw [e]))⟩
  refine ⟨.tuple #[v, .iface t x], ?_, v, rfl, hr.out _ _ _ gh R1.out, G1.out.setCell (Nat.le_refl _) _⟩
  simp [results, Tryd.results112, go_sem, hc2]
set_option maxRecDepth 100000 in
set_option maxHeartbeats 1000000 in
theorem rep_Times_ok (K : FuncId) (caps : Array Value) (R : Value → World → Prop) (w : World) (hK : ∀ (args : Array Value) (w : World), (callFunc K args).run Tryd.prog w = .ok (.enter K args) w)
    (hR : ∀ v w1 w2, w1.grownBy w2 (some w.heap.size) → R v w1 → R v w2)
    (HC : Calls Tryd.prog K caps (w.alloc (.cells #[.nilIface] 65)) fun e w' => ∃ v, e = .returned (.tuple #[v, .nilIface]) ∧ R v w' ∧ Gr (w.alloc (.cells #[.nilIface] 65)) w') :
    Calls Tryd.prog 95 #[.func (.func K) #[] caps] w fun e w' => ∃ v, e = .returned (.tuple #[v, .int .i64 0]) ∧ R v w' ∧ Gr w w' := by
  have HA := hid (att_Times_nil K caps R w hK hR HC)
  have HN := hid as_nil
  have hr := hid hR
  clear HC hR hK
  go_enter Tryd.func95, Tryd.ntmps95
  go_wp2_with fail
  refine HA.out.mono ?_
  rintro e w1 ⟨v, rfl, r1, g1⟩
  have G1 := hid g1
  have R1 := hid r1
  clear g1 r1
  go_wp2_with fail
  refine (HN.out _ _).mono ?_
  rintro e w2 ⟨rfl, rfl⟩
  go_wp2
  go_ret2
  exact ⟨v, rfl, hr.out _ _ _ (World.grownBy_alloc _ _ _) R1.out, G1.out.alloc _⟩
set_option maxRecDepth 100000 in
set_option maxHeartbeats 1000000 in
theorem rep_Times_err_notValid (s : ByteArray) (K : FuncId) (caps : Array Value) (w : World) (hK : ∀ (args : Array Value) (w : World), (callFunc K args).run Tryd.prog w = .ok (.enter K args) w)
    (HC : Calls Tryd.prog K caps (w.alloc (.cells #[.nilIface] 65)) fun e w' => ∃ v, e = .returned (.tuple #[v, .iface 109 (.string s)]) ∧ Gr (w.alloc (.cells #[.nilIface] 65)) w') :
    Calls Tryd.prog 95 #[.func (.func K) #[] caps] w fun e w' => e = .returned (.tuple #[.slice none 0 0, .int .i64 1]) ∧ Gr w w' := by
  have HA := hid (att_Times_iface 109 (.string s) K caps (fun _ _ => True) w hK (fun _ _ _ _ r => r) (HC.mono (by rintro e w' ⟨v, rfl, g⟩; exact ⟨v, rfl, trivial, g⟩)))
  have HN := hid (fun V (G : Gr w V) => as_notValid s V.heap.size (V.alloc (.cells #[.nilIface] 135)) (heap_new rfl) w (G.alloc _) G.size)
  clear HC hK
  go_enter Tryd.func95, Tryd.ntmps95
  go_wp2_with fail
  refine HA.out.mono ?_
  rintro e w1 ⟨v, rfl, -, g1⟩
  have G1 := hid g1
  clear g1
  go_wp2_with fail
  refine (HN.out _ G1.out).mono ?_
  rintro e w2 ⟨rfl, g2, hb2⟩
  have G2 := hid g2
  have hc2 : w2.cell? ⟨w1.heap.size, 0, none⟩ = some (.iface 109 (.string s)) := by rw [cell_of_row _ _ _ _ _ _ hb2]; rfl
  clear g2 hb2
  go_wp2
  go_ret2
  exact ⟨rfl, G2.out⟩
set_option maxRecDepth 100000 in
set_option maxHeartbeats 1000000 in
theorem ans1_Times_no (lp tp al : Option Addr) (n cal : Nat) (xs : List Int) (hl : xs.length = n * 3) (hn : n ≤ 1048576) (hf : Fits .i8 xs) (hv : lineB n xs = false) (w : World) (hlp : ∀ p, lp = some p → w.cell? p = some (.slice al n cal)) (hl0 : lp ≠ none) (hs : SliceOf .i8 w al xs) :
    Calls Tryd.prog 96 #[.pointer lp, .pointer tp] w fun e w' => ∃ v, e = .returned (.tuple #[v, .iface 109 (.string lineTxt)]) ∧ Gr w w' := by
  obtain ⟨p, rfl⟩ := Option.ne_none_iff_exists'.1 hl0
  have hc := hlp p rfl
  have HV := hid (impl_ValidLine_any al n cal xs hl hn hf w hs)
  rw [hv] at HV
  clear hs hl hf hv hlp hl0
  go_enter Tryd.func96, Tryd.ntmps96
  go_wp2_with fail
  refine HV.out.mono ?_
  rintro e w1 ⟨rfl, g1⟩
  have G1 := hid g1
  clear g1
  go_wp2
  go_ret2
  exact ⟨_, rfl, G1.out⟩
set_option maxRecDepth 100000 in
set_option maxHeartbeats 1000000 in
theorem ans1_Times_ret (lp tp : Addr) (al : Option Addr) (n cal : Nat) (xs : List Int) (hl : xs.length = n * 3) (hn : n ≤ 1048576) (hf : Fits .i8 xs) (hv : lineB n xs = true) (K : FuncId) (caps : Array Value) (R : Value → Value → World → Prop) (w : World) (hnv : NeverAt w) (hlp : w.cell? lp = some (.slice al n cal)) (htp : w.cell? tp = some (.func (.func K) #[] caps)) (hs : SliceOf .i8 w al xs)
    (hK : ∀ (args : Array Value) (w : World), (callFunc K args).run Tryd.prog w = .ok (.enter K args) w)
    (HT : ∀ V a c, Gr w V → OwnV 69 4 V w.heap.size V.heap.size (.slice a n c) n (tmCells (timesL n xs)) → Calls Tryd.prog K (#[.slice a n c] ++ caps) V fun e w' => ∃ v u, e = .returned (.tuple #[v, u]) ∧ R v u w' ∧ Gr V w') :
    Calls Tryd.prog 96 #[.pointer (some lp), .pointer (some tp)] w fun e w' => ∃ v u, e = .returned (.tuple #[v, u]) ∧ R v u w' ∧ Gr w w' := by
  have HV := hid (impl_ValidLine_any al n cal xs hl hn hf w hs)
  have h0 := (lineOk_of hv).1.1
  have HO := hid (fun V (g : Gr w V) => timesOf_any al n cal xs hl (by omega) (lineOk_line hv) V (hnv.gr g) (hs.gr g))
  have HTL := hid HT
  rw [hv] at HV
  have HCL := hid hlp
  have HCT := hid htp
  clear hs hl hf hv hnv HT htp
  go_enter Tryd.func96, Tryd.ntmps96
  go_wp2_with fail
  refine HV.out.mono ?_
  rintro e w1 ⟨rfl, g1⟩
  have hgg := g1
  have hcl := g1.cell HCL.out
  have hct := g1.cell HCT.out
  clear g1 hlp
  go_wp2_with fail
  have hcl' : w1.drew.cell? lp = some (.slice al n cal) := hcl
  have hct' : w1.drew.cell? tp = some (.func (.func K) #[] caps) := hct
  have hgd := hgg.drew
  first
  | (go_region_with (first | (go_at_call 98; (with_reducible refine (HO.out _ (by first | exact hgd | exact hgg | exact hgg.drewN _)).mono ?_); rintro e V ⟨v, rfl, oV, gV0⟩; have gV : Gr w V := Gr.trans (by first | exact hgd | exact hgg | exact hgg.drewN _) gV0; have c1 := gV.cell HCL.out; have c2 := gV.cell HCT.out; obtain ⟨av, cv, rfl⟩ := oV.shape; have OV := oV.widen (lo' := w.heap.size) (by first | exact hgd.size | exact hgg.size) (Nat.le_refl _); clear oV gV0; unfold id) | ((with_reducible refine (HTL.out _ _ _ (by assumption) (by assumption)).mono ?_); rintro e V ⟨v, u, rfl, rV, gV0⟩; have gV2 : Gr w V := Gr.trans (by assumption) gV0; clear gV0)))
  | fail "with"
  all_goals
    go_wp2_with fail
    go_ret2
    exact ⟨_, _, rfl, by assumption, by assumption⟩
set_option maxRecDepth 100000 in
set_option maxHeartbeats 1000000 in
theorem ans_Times_no (al : Option Addr) (n cal : Nat) (xs : List Int) (hl : xs.length = n * 3) (hn : n ≤ 1048576) (hf : Fits .i8 xs) (hv : lineB n xs = false) (K : FuncId) (caps : Array Value) (w : World) (hs : SliceOf .i8 w al xs) :
    Calls Tryd.prog 52 #[.slice al n cal, .func (.func K) #[] caps] w fun e w' => e = .returned (.tuple #[.slice none 0 0, .int .i64 1]) ∧ Gr w w' := by
  have hmf : ∀ (fn : Fn) (first cap : Array Value) (w : World), (Instr.makeFunc fn first cap).run Tryd.prog w = .ok (.func fn first cap) w := fun _ _ _ _ => rfl
  obtain ⟨w1, hw1⟩ : ∃ w1, w1 = w.alloc (.cells #[.slice al n cal] 27) := ⟨_, rfl⟩
  obtain ⟨w2, hw2⟩ : ∃ w2, w2 = w1.alloc (.cells #[.func (.func K) #[] caps] 66) := ⟨_, rfl⟩
  have s1 : w1.heap.size = w.heap.size + 1 := by rw [hw1]; simp
  have s2 : w2.heap.size = w.heap.size + 2 := by rw [hw2]; simp [s1]
  have g1 : Gr w w1 := by rw [hw1]; exact (Gr.refl _).alloc _
  have g12 : Gr w1 w2 := by rw [hw2]; exact (Gr.refl _).alloc _
  have g2 : Gr w w2 := g1.trans g12
  have g3 : Gr w2 (w2.alloc (.cells #[.nilIface] 65)) := (Gr.refl _).alloc _
  have c1 : (w2.alloc (.cells #[.nilIface] 65)).cell? ⟨w.heap.size, 0, none⟩ = some (.slice al n cal) :=
    g3.cell (g12.cell (by rw [hw1, cell_of_row _ _ _ _ _ _ (heap_new rfl)]; rfl))
  have c2 : (w2.alloc (.cells #[.nilIface] 65)).cell? ⟨w.heap.size + 1, 0, none⟩ = some (.func (.func K) #[] caps) :=
    g3.cell (by rw [hw2, cell_of_row _ _ _ _ _ _ (heap_new (w := w1) s1.symm)]; rfl)
  have g03 := g2.trans g3
  have HA := hid (rep_Times_err_notValid lineTxt 96 #[.pointer (some ⟨w.heap.size, 0, none⟩), .pointer (some ⟨w.heap.size + 1, 0, none⟩)] w2 (fun args w => callFunc_enter Tryd.func96 (by kernel_rfl) (by kernel_rfl) args w) (ans1_Times_no (some ⟨w.heap.size, 0, none⟩) (some ⟨w.heap.size + 1, 0, none⟩) al n cal xs hl hn hf hv _ (fun p e => by cases e; exact c1) (by simp) (hs.gr g03)))
  have G2 := hid g2
  clear c1 c2 g1 g12 g3 g03 g2 s1 s2 hs hl hf hv
  rw [hw1] at hw2
  subst hw2
  clear hw1
  go_enter Tryd.func52, Tryd.ntmps52
  go_wp2_with fail
  refine HA.out.mono ?_
  rintro e w3 ⟨rfl, g3⟩
  have G3 := hid (G2.out.trans g3)
  clear g3
  go_wp2_with fail
  go_ret2
  exact ⟨rfl, G3.out⟩
set_option maxRecDepth 100000 in
set_option maxHeartbeats 1000000 in
theorem ans_Times_ok (al : Option Addr) (n cal : Nat) (xs : List Int) (hl : xs.length = n * 3) (hn : n ≤ 1048576) (hf : Fits .i8 xs) (hv : lineB n xs = true) (K : FuncId) (caps : Array Value) (R : World → Value → World → Prop) (w : World) (hnv : NeverAt w) (hs : SliceOf .i8 w al xs)
    (hK : ∀ (args : Array Value) (w : World), (callFunc K args).run Tryd.prog w = .ok (.enter K args) w)
    (hR : ∀ V v w1 w2 b, b < V.heap.size → w1.grownBy w2 (some b) → R V v w1 → R V v w2)
    (HT : ∀ W V a c, Gr w W → Gr W V → OwnV 69 4 V W.heap.size V.heap.size (.slice a n c) n (tmCells (timesL n xs)) → Calls Tryd.prog K (#[.slice a n c] ++ caps) V fun e w' => ∃ v, e = .returned (.tuple #[v, .nilIface]) ∧ R W v w' ∧ Gr V w') :
    Calls Tryd.prog 52 #[.slice al n cal, .func (.func K) #[] caps] w fun e w' => ∃ V v, e = .returned (.tuple #[v, .int .i64 0]) ∧ R V v w' ∧ Gr w V ∧ Gr w w' := by
  have hmf : ∀ (fn : Fn) (first cap : Array Value) (w : World), (Instr.makeFunc fn first cap).run Tryd.prog w = .ok (.func fn first cap) w := fun _ _ _ _ => rfl
  obtain ⟨w1, hw1⟩ : ∃ w1, w1 = w.alloc (.cells #[.slice al n cal] 27) := ⟨_, rfl⟩
  obtain ⟨w2, hw2⟩ : ∃ w2, w2 = w1.alloc (.cells #[.func (.func K) #[] caps] 66) := ⟨_, rfl⟩
  have s1 : w1.heap.size = w.heap.size + 1 := by rw [hw1]; simp
  have s2 : w2.heap.size = w.heap.size + 2 := by rw [hw2]; simp [s1]
  have g1 : Gr w w1 := by rw [hw1]; exact (Gr.refl _).alloc _
  have g12 : Gr w1 w2 := by rw [hw2]; exact (Gr.refl _).alloc _
  have g2 : Gr w w2 := g1.trans g12
  have g3 : Gr w2 (w2.alloc (.cells #[.nilIface] 65)) := (Gr.refl _).alloc _
  have c1 : (w2.alloc (.cells #[.nilIface] 65)).cell? ⟨w.heap.size, 0, none⟩ = some (.slice al n cal) :=
    g3.cell (g12.cell (by rw [hw1, cell_of_row _ _ _ _ _ _ (heap_new rfl)]; rfl))
  have c2 : (w2.alloc (.cells #[.nilIface] 65)).cell? ⟨w.heap.size + 1, 0, none⟩ = some (.func (.func K) #[] caps) :=
    g3.cell (by rw [hw2, cell_of_row _ _ _ _ _ _ (heap_new (w := w1) s1.symm)]; rfl)
  have g03 := g2.trans g3
  have HA := hid (rep_Times_ok 96 #[.pointer (some ⟨w.heap.size, 0, none⟩), .pointer (some ⟨w.heap.size + 1, 0, none⟩)] (fun v w' => R (w2.alloc (.cells #[.nilIface] 65)) v w') w2 (fun args w => callFunc_enter Tryd.func96 (by kernel_rfl) (by kernel_rfl) args w)
    (fun v w3 w4 h r => hR _ v w3 w4 _ (by simp) h r)
    ((ans1_Times_ret ⟨w.heap.size, 0, none⟩ ⟨w.heap.size + 1, 0, none⟩ al n cal xs hl hn hf hv K caps (fun v u w' => u = .nilIface ∧ R (w2.alloc (.cells #[.nilIface] 65)) v w') _ (hnv.gr g03) c1 c2 (hs.gr g03) hK
      (fun V a c gV ha => (HT _ V a c g03 gV ha).mono (by rintro e w' ⟨v, rfl, r, g⟩; exact ⟨v, _, rfl, ⟨rfl, r⟩, g⟩))).mono (by rintro e w' ⟨v, u, rfl, ⟨rfl, r⟩, g⟩; exact ⟨v, rfl, r, g⟩)))
  have G03 := hid g03
  have G2 := hid g2
  clear c1 c2 g1 g12 g3 g03 g2 s1 s2 hs hl hf hv hnv HT hR
  rw [hw1] at hw2
  subst hw2
  clear hw1
  go_enter Tryd.func52, Tryd.ntmps52
  go_wp2_with fail
  refine HA.out.mono ?_
  rintro e w3 ⟨v, rfl, r, g3⟩
  have G3 := hid (G2.out.trans g3)
  have RR := hid r
  clear g3 r
  go_wp2_with fail
  go_ret2
  exact ⟨_, v, rfl, RR.out, G03.out, G3.out⟩
end Go.Proofs.YtflbjjcpkhldkaaDoor
