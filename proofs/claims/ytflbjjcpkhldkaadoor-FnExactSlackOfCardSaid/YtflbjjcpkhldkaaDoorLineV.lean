/- Lines of ships: what is valid. -/
import Derived.Test.YtflbjjcpkhldkaaDoorOwnV
import Derived.Test.YtflbjjcpkhldkaaDoorHoistM
namespace Go.Proofs.YtflbjjcpkhldkaaDoor
open Go.RowKit
def rgV (n a b : Int) : Bool := decide (a ≤ n) && decide (n ≤ b)
theorem rgV_iff {n a b : Int} : rgV n a b = true ↔ a ≤ n ∧ n ≤ b := by simp [rgV]
def shB (xs : List Int) (k : Nat) : Bool := rgV (xs.getD (k * 3) 0) 0 6 && (rgV (xs.getD (k * 3 + 1) 0) 0 60 && rgV (xs.getD (k * 3 + 2) 0) 0 60)
def lineB (n : Nat) (xs : List Int) : Bool := rgV n 1 20 && allTo (shB xs) n
set_option maxRecDepth 100000 in
theorem isBetween_r {n a b : Int} {r : Bool} (h : rgV n a b = r) (w : World) :
    Calls Tryd.prog 83 #[.int .i64 n, .int .i64 a, .int .i64 b] w fun e w' => e = .returned (.bool r) ∧ w = w' := by
  have H := hid h
  clear h
  by_cases h1 : a ≤ n
  · have d1 : decide (a ≤ n) = true := by simpa using h1
    go_enter Tryd.func83, Tryd.ntmps83
    go_wp2
    go_ret
    exact ⟨ret_bool (by rw [← H.out]; simp [rgV, h1]), rfl⟩
  · have d1 : decide (a ≤ n) = false := by simpa using h1
    go_enter Tryd.func83, Tryd.ntmps83
    go_wp2
    go_ret
    exact ⟨ret_bool (by rw [← H.out]; unfold rgV; rw [d1]; rfl), rfl⟩
set_option maxRecDepth 100000 in
theorem l00In_v {n a b : Int} {r : Bool} (h : rgV n a b = r) (w : World) :
    Calls Tryd.prog 81 #[.int .i64 n, .int .i64 a, .int .i64 b] w fun e w' => e = .returned (.bool r) ∧ w = w' := by
  have H := hid h
  clear h
  by_cases h1 : a ≤ n
  · have d1 : decide (a ≤ n) = true := by simpa using h1
    go_enter Tryd.func81, Tryd.ntmps81
    go_wp2
    go_ret
    exact ⟨ret_bool (by rw [← H.out]; simp [rgV, h1]), rfl⟩
  · have d1 : decide (a ≤ n) = false := by simpa using h1
    go_enter Tryd.func81, Tryd.ntmps81
    go_wp2
    go_ret
    exact ⟨ret_bool (by rw [← H.out]; unfold rgV; rw [d1]; rfl), rfl⟩
/-- The three cells of a ship. -/
def shCells (s r b : Int) : Array Value := #[.int .i8 s, .int .i8 r, .int .i8 b]
def tripB (s r b : Int) : Bool := rgV s 0 6 && (rgV r 0 60 && rgV b 0 60)
theorem ship_range {w : World} {b off : Nat} {xs : List Int} {n k : Nat} (hs : SliceOf .i8 w (some ⟨b, off, none⟩) xs) (hl : xs.length = n * 3) (hk : k < n) : w.rangeAt b (off + k * 3) (shCells (xs.getD (k * 3) 0) (xs.getD (k * 3 + 1) 0) (xs.getD (k * 3 + 2) 0)).toList := by
  intro j v hv
  have hj : j < 3 := (List.getElem?_eq_some_iff.1 hv).1
  obtain ⟨b', off', e, hc⟩ := hs (k * 3 + j) (by omega)
  cases e
  rw [show off + k * 3 + j = off + (k * 3 + j) by omega, hc]
  rcases (by omega : j = 0 ∨ j = 1 ∨ j = 2) with rfl | rfl | rfl <;> simpa [shCells] using hv
theorem ship_cells {w : World} {a : Option Addr} {xs : List Int} {n k : Nat} (hs : SliceOf .i8 w a xs) (hl : xs.length = n * 3) (hk : k < n) :
    ∃ b off, a = some ⟨b, off, none⟩ ∧ w.cell? ⟨b, off + k * 3, none⟩ = some (.int .i8 (xs.getD (k * 3) 0)) ∧ w.cell? ⟨b, off + k * 3 + 1, none⟩ = some (.int .i8 (xs.getD (k * 3 + 1) 0)) ∧ w.cell? ⟨b, off + k * 3 + 2, none⟩ = some (.int .i8 (xs.getD (k * 3 + 2) 0)) := by
  obtain ⟨b, off, rfl, h0⟩ := hs (k * 3) (by omega)
  obtain ⟨b1, o1, e1, h1⟩ := hs (k * 3 + 1) (by omega)
  obtain ⟨b2, o2, e2, h2⟩ := hs (k * 3 + 2) (by omega)
  cases e1
  cases e2
  exact ⟨b, off, rfl, h0, h1, h2⟩
theorem Fits.i8 {xs : List Int} (h : Fits .i8 xs) (i : Nat) : -128 ≤ xs.getD i 0 ∧ xs.getD i 0 ≤ 127 := by
  by_cases hi : i < xs.length
  · have h1 := h (xs[i]) (List.getElem_mem hi)
    have h2 : -128 ≤ xs[i] ∧ xs[i] ≤ 127 := by simpa [Lit.wf, IntKind.min, IntKind.max, IntKind.signed, IntKind.bits] using h1
    simpa [List.getD, List.getElem?_eq_getElem hi] using h2
  · simp [List.getD, List.getElem?_eq_none (by omega : xs.length ≤ i)]
set_option maxRecDepth 100000 in
set_option maxHeartbeats 800000 in
theorem shipValid_any (s r b : Int) (hs : -128 ≤ s ∧ s ≤ 127) (hr : -128 ≤ r ∧ r ≤ 127) (hb : -128 ≤ b ∧ b ≤ 127) (w : World) :
    Calls Tryd.prog 115 #[.agg (shCells s r b)] w fun e w' => e = .returned (.bool (tripB s r b)) ∧ Gr w w' := by
  have gr : Hid (Gr w (w.alloc (.cells (shCells s r b) 60))) := hid ((Gr.refl _).alloc _)
  have e1 : IntKind.i64.wrap s = s := IntWalk.i64_in _ (by omega)
  have e2 : IntKind.i64.wrap r = r := IntWalk.i64_in _ (by omega)
  have e3 : IntKind.i64.wrap b = b := IntWalk.i64_in _ (by omega)
  unfold tripB
  have HS := hid (fun W => isBetween_r (n := s) (a := 0) (b := 6) rfl W)
  have HR := hid (fun W => isBetween_r (n := r) (a := 0) (b := 60) rfl W)
  have HB := hid (fun W => isBetween_r (n := b) (a := 0) (b := 60) rfl W)
  generalize rgV s 0 6 = q0 at *
  generalize rgV r 0 60 = q1 at *
  generalize rgV b 0 60 = q2 at *
  unfold shCells at gr ⊢
  cases q0
  · go_enter Tryd.func115, Tryd.ntmps115
    go_wp2_with ((with_reducible refine (HS.out _).mono ?_); rintro e w' ⟨rfl, rfl⟩)
    go_ret
    exact ⟨rfl, gr.out⟩
  · cases q1
    · go_enter Tryd.func115, Tryd.ntmps115
      go_wp2_with (first | ((with_reducible refine (HS.out _).mono ?_); rintro e w' ⟨rfl, rfl⟩) | ((with_reducible refine (HR.out _).mono ?_); rintro e w' ⟨rfl, rfl⟩))
      go_ret
      exact ⟨rfl, gr.out⟩
    · go_enter Tryd.func115, Tryd.ntmps115
      go_wp2_with (first | ((with_reducible refine (HS.out _).mono ?_); rintro e w' ⟨rfl, rfl⟩) | ((with_reducible refine (HR.out _).mono ?_); rintro e w' ⟨rfl, rfl⟩) | ((with_reducible refine (HB.out _).mono ?_); rintro e w' ⟨rfl, rfl⟩))
      go_ret
      exact ⟨rfl, gr.out⟩
set_option maxRecDepth 100000 in
set_option maxHeartbeats 800000 in
theorem allShip_any (a : Option Addr) (n cap : Nat) (xs : List Int) (hl : xs.length = n * 3) (hn : n ≤ 1048576) (hf : Fits .i8 xs) (w : World) (hs : SliceOf .i8 w a xs) :
    Calls Tryd.prog 114 #[.slice a n cap, .func (.func 115) #[] #[]] w fun e w' => e = .returned (.bool (allTo (shB xs) n)) ∧ Gr w w' := by
  have S := hid hs
  have HL := hid hl
  have HF := hid hf
  have HE := hid (show ∀ k, shB xs k = tripB (xs.getD (k * 3) 0) (xs.getD (k * 3 + 1) 0) (xs.getD (k * 3 + 2) 0) from fun _ => rfl)
  clear hs hl hf
  go_enter Tryd.func114, Tryd.ntmps114
  go_wp2_with fail
  go_loopw [9] (fun i wr => ∃ k : Nat, k ≤ n ∧ i = .int .i64 k ∧ Hid (allTo (shB xs) k = true) ∧ Hid (Gr w wr)) (fun i _ => n - (intOf i).toNat)
  case atStart => exact ⟨0, Nat.zero_le _, rfl, hid rfl, hid (Gr.refl _)⟩
  case round =>
    obtain ⟨k, hk, rfl, hok, hg⟩ := hrel
    by_cases hlt : k < n
    · obtain ⟨b, off, rfl, _⟩ := S.out (k * 3) (by rw [HL.out]; omega)
      have RG := hid (ship_range (S.out.gr hg.out) HL.out hlt)
      have f0 := HF.out.i8 (k * 3)
      have f1 := HF.out.i8 (k * 3 + 1)
      have f2 := HF.out.i8 (k * 3 + 2)
      have HY := hid (fun (h : shB xs k = true) => allTo_step hok.out h)
      have HZ := hid (fun (h : shB xs k = false) => allTo_no (p := shB xs) (k := n) hlt h)
      have HQ := hid (HE.out k)
      have HV := hid (fun V => shipValid_any (xs.getD (k * 3) 0) (xs.getD (k * 3 + 1) 0) (xs.getD (k * 3 + 2) 0) f0 f1 f2 V)
      clear f0 f1 f2
      generalize xs.getD (k * 3) 0 = s0 at *
      generalize xs.getD (k * 3 + 1) 0 = s1 at *
      generalize xs.getD (k * 3 + 2) 0 = s2 at *
      generalize tripB s0 s1 s2 = q at *
      have G1 := hid (hg.out.trans ((Gr.refl wr).alloc (.cells (shCells s0 s1 s2) 60)))
      unfold shCells at RG HV G1
      cases q
      · have HR := hid (HZ.out HQ.out)
        clear HY HZ
        go_wp2_with (refine wpList_load_mid rfl 60 _ rfl b (off + k * 3) rfl _ _ RG.out Tryd.underlying60 rfl (by kernel_rfl) ?_)
        refine (HV.out _).mono ?_
        rintro e w1 ⟨rfl, g1⟩
        have G2 := hid (G1.out.trans g1)
        clear g1
        go_wp2_with fail
        go_ret
        exact ⟨ret_bool HR.out.symm, G2.out⟩
      · have HR := hid (HY.out HQ.out)
        clear HY HZ
        go_wp2_with (refine wpList_load_mid rfl 60 _ rfl b (off + k * 3) rfl _ _ RG.out Tryd.underlying60 rfl (by kernel_rfl) ?_)
        refine (HV.out _).mono ?_
        rintro e w1 ⟨rfl, g1⟩
        have G2 := hid (G1.out.trans g1)
        clear g1
        go_wp2_with fail
        go_roundw
        case rel => exact ⟨k + 1, by omega, by go_num, HR, G2⟩
        case measure => simp [intOf] <;> omega
    · obtain rfl : k = n := by omega
      go_wp2_with fail
      go_ret
      exact ⟨ret_bool hok.out.symm, hg.out⟩
set_option maxRecDepth 100000 in
set_option maxHeartbeats 800000 in
theorem impl_ValidLine_any (a : Option Addr) (n cap : Nat) (xs : List Int) (hl : xs.length = n * 3) (hn : n ≤ 1048576) (hf : Fits .i8 xs) (w : World) (hs : SliceOf .i8 w a xs) :
    Calls Tryd.prog 97 #[.slice a n cap] w fun e w' => e = .returned (.bool (lineB n xs)) ∧ Gr w w' := by
  have HA := hid (fun V (h : SliceOf .i8 V a xs) => allShip_any a n cap xs hl hn hf V h)
  have S := hid hs
  have HN := hid (fun W => isBetween_r (n := n) (a := 1) (b := 20) rfl W)
  unfold lineB
  clear hl hf hs
  generalize rgV n 1 20 = q0 at *
  generalize allTo (shB xs) n = q1 at *
  cases q0
  · go_enter Tryd.func97, Tryd.ntmps97
    go_wp2_with ((with_reducible refine (HN.out _).mono ?_); rintro e w' ⟨rfl, rfl⟩)
    go_ret
    exact ⟨rfl, Gr.refl _⟩
  · go_enter Tryd.func97, Tryd.ntmps97
    go_wp2_with ((with_reducible refine (HN.out _).mono ?_); rintro e w' ⟨rfl, rfl⟩)
    refine (HA.out _ S.out).mono ?_
    rintro e w1 ⟨rfl, g1⟩
    have G1 := hid g1
    clear g1
    go_wp2_with fail
    go_ret
    exact ⟨rfl, G1.out⟩
set_option maxRecDepth 100000 in
set_option maxHeartbeats 1600000 in
theorem l06Ok_any (a : Option Addr) (n cap : Nat) (xs : List Int) (hl : xs.length = n * 3) (hn : n ≤ 1048576) (hf : Fits .i8 xs) (w : World) (hs : SliceOf .i8 w a xs) :
    Calls Tryd.prog 49 #[.slice a n cap] w fun e w' => e = .returned (.bool (lineB n xs)) ∧ Gr w w' := by
  have S := hid hs
  have HL := hid hl
  have HF := hid hf
  have HE := hid (show ∀ k, shB xs k = tripB (xs.getD (k * 3) 0) (xs.getD (k * 3 + 1) 0) (xs.getD (k * 3 + 2) 0) from fun _ => rfl)
  have HN := hid (fun W => l00In_v (n := n) (a := 1) (b := 20) rfl W)
  unfold lineB
  clear hs hl hf
  generalize rgV n 1 20 = q0 at *
  cases q0
  · go_enter Tryd.func49, Tryd.ntmps49
    go_wp2_with ((with_reducible refine (HN.out _).mono ?_); rintro e w' ⟨rfl, rfl⟩)
    go_ret
    exact ⟨rfl, Gr.refl _⟩
  have HI := hid (show ∀ s r b : Int, tripB s r b = (rgV s 0 6 && (rgV r 0 60 && rgV b 0 60)) from fun _ _ _ => rfl)
  go_enter Tryd.func49, Tryd.ntmps49
  go_wp2_with ((with_reducible refine (HN.out _).mono ?_); rintro e w' ⟨rfl, rfl⟩)
  clear HN
  go_loopw [3] (fun i wr => ∃ k : Nat, k ≤ n ∧ i = .int .i64 k ∧ Hid (allTo (shB xs) k = true) ∧ Hid (Gr w wr)) (fun i _ => n - (intOf i).toNat)
  case atStart => exact ⟨0, Nat.zero_le _, rfl, hid rfl, hid (Gr.refl _)⟩
  case round =>
    obtain ⟨k, hk, rfl, hok, hg⟩ := hrel
    by_cases hlt : k < n
    · obtain ⟨b, off, rfl, _⟩ := S.out (k * 3) (by rw [HL.out]; omega)
      have RG := hid (ship_range (S.out.gr hg.out) HL.out hlt)
      have f0 := HF.out.i8 (k * 3)
      have f1 := HF.out.i8 (k * 3 + 1)
      have f2 := HF.out.i8 (k * 3 + 2)
      have HY := hid (fun (h : shB xs k = true) => allTo_step hok.out h)
      have HZ := hid (fun (h : shB xs k = false) => allTo_no (p := shB xs) (k := n) hlt h)
      have HQ := hid (HE.out k)
      generalize xs.getD (k * 3) 0 = s0 at *
      generalize xs.getD (k * 3 + 1) 0 = s1 at *
      generalize xs.getD (k * 3 + 2) 0 = s2 at *
      rw [HI.out] at HQ
      have e1 : IntKind.i64.wrap s0 = s0 := IntWalk.i64_in _ (by omega)
      have e2 : IntKind.i64.wrap s1 = s1 := IntWalk.i64_in _ (by omega)
      have e3 : IntKind.i64.wrap s2 = s2 := IntWalk.i64_in _ (by omega)
      have HS := hid (fun W => l00In_v (n := s0) (a := 0) (b := 6) rfl W)
      have HR := hid (fun W => l00In_v (n := s1) (a := 0) (b := 60) rfl W)
      have HB := hid (fun W => l00In_v (n := s2) (a := 0) (b := 60) rfl W)
      generalize rgV s0 0 6 = q0 at *
      generalize rgV s1 0 60 = q1 at *
      generalize rgV s2 0 60 = q2 at *
      have G1 := hid (hg.out.trans ((Gr.refl wr).alloc (.cells (shCells s0 s1 s2) 60)))
      unfold shCells at RG G1
      clear f0 f1 f2
      cases q0
      · have HR2 := hid (HZ.out HQ.out)
        clear HY HZ HR HB
        go_wp2_with (first | (refine wpList_load_mid rfl 60 _ rfl b (off + k * 3) rfl _ _ RG.out Tryd.underlying60 rfl (by kernel_rfl) ?_) | ((with_reducible refine (HS.out _).mono ?_); rintro e w' ⟨rfl, rfl⟩))
        go_ret
        exact ⟨ret_bool HR2.out.symm, G1.out⟩
      · cases q1
        · have HR2 := hid (HZ.out HQ.out)
          clear HY HZ HB
          go_wp2_with (first | (refine wpList_load_mid rfl 60 _ rfl b (off + k * 3) rfl _ _ RG.out Tryd.underlying60 rfl (by kernel_rfl) ?_) | ((with_reducible refine (HS.out _).mono ?_); rintro e w' ⟨rfl, rfl⟩) | ((with_reducible refine (HR.out _).mono ?_); rintro e w' ⟨rfl, rfl⟩))
          go_ret
          exact ⟨ret_bool HR2.out.symm, G1.out⟩
        · cases q2
          · have HR2 := hid (HZ.out HQ.out)
            clear HY HZ
            go_wp2_with (first | (refine wpList_load_mid rfl 60 _ rfl b (off + k * 3) rfl _ _ RG.out Tryd.underlying60 rfl (by kernel_rfl) ?_) | ((with_reducible refine (HS.out _).mono ?_); rintro e w' ⟨rfl, rfl⟩) | ((with_reducible refine (HR.out _).mono ?_); rintro e w' ⟨rfl, rfl⟩) | ((with_reducible refine (HB.out _).mono ?_); rintro e w' ⟨rfl, rfl⟩))
            go_ret
            exact ⟨ret_bool HR2.out.symm, G1.out⟩
          · have HR2 := hid (HY.out HQ.out)
            clear HY HZ
            go_wp2_with (first | (refine wpList_load_mid rfl 60 _ rfl b (off + k * 3) rfl _ _ RG.out Tryd.underlying60 rfl (by kernel_rfl) ?_) | ((with_reducible refine (HS.out _).mono ?_); rintro e w' ⟨rfl, rfl⟩) | ((with_reducible refine (HR.out _).mono ?_); rintro e w' ⟨rfl, rfl⟩) | ((with_reducible refine (HB.out _).mono ?_); rintro e w' ⟨rfl, rfl⟩))
            go_roundw
            case rel => exact ⟨k + 1, by omega, by go_num, HR2, G1⟩
            case measure => simp [intOf] <;> omega
    · obtain rfl : k = n := by omega
      go_wp2_with fail
      go_ret
      exact ⟨ret_bool hok.out.symm, hg.out⟩
end Go.Proofs.YtflbjjcpkhldkaaDoor
