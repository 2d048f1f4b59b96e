/- Patterns of two colours: crosses, borders, chequers: the program's functions. -/
import Derived.Test.YtflolmjgkmmllaaPainted
namespace Go.Proofs.Ytflolmjgkmmllaa
open Go.RowKit

/-- Which cells have the second colour. -/
def crossB (x y : Int) : Bool := x == 2 || x == 3 || y == 1 || y == 2
def borderB (x y : Int) : Bool := x == 0 || x == 5 || y == 0 || y == 3
def chequersB (x y : Int) : Bool := (x + y) % 2 != 0
def pick2 (b : Bool) (f g : Int) : Int := if b then f else g
def patCol (fig : Int → Int → Bool) (g f : Int) (i : Nat) : Int := pick2 (fig ((i : Int) % 6) ((i : Int) / 6)) f g
/-- What a function of a pattern hands back. -/
def patFlag (fig : Int → Int → Bool) (g f : Int) : List Int := if colourB g && colourB f then (List.range 24).map (patCol fig g f) else zeros24
def patCode (g f : Int) : Int := if colourB g && colourB f then 0 else 2
theorem patFlag_length (fig : Int → Int → Bool) (g f : Int) : (patFlag fig g f).length = 24 := by
  unfold patFlag; split <;> simp [zeros24]

theorem cross1_any (x y : Int) (w : World) :
    Calls Try.prog 69 #[.int .i64 x, .int .i64 y] w fun e w' => e = .returned (.bool (crossB x y)) ∧ w = w' := by
  cases h1 : (x == 2) <;> cases h2 : (x == 3) <;> cases h3 : (y == 1) <;> cases h4 : (y == 2) <;>
    (go_enter Try.func69, Try.ntmps69
     go_wp2
     go_ret
     exact ⟨ret_bool (by unfold crossB; rw [h1, h2, h3, h4]; rfl), rfl⟩)
theorem border1_any (x y : Int) (w : World) :
    Calls Try.prog 70 #[.int .i64 x, .int .i64 y] w fun e w' => e = .returned (.bool (borderB x y)) ∧ w = w' := by
  cases h1 : (x == 0) <;> cases h2 : (x == 5) <;> cases h3 : (y == 0) <;> cases h4 : (y == 3) <;>
    (go_enter Try.func70, Try.ntmps70
     go_wp2
     go_ret
     exact ⟨ret_bool (by unfold borderB; rw [h1, h2, h3, h4]; rfl), rfl⟩)
theorem chequers1_any (x y : Int) (hx : 0 ≤ x ∧ x ≤ 6) (hy : 0 ≤ y ∧ y ≤ 6) (w : World) :
    Calls Try.prog 71 #[.int .i64 x, .int .i64 y] w fun e w' => e = .returned (.bool (chequersB x y)) ∧ w = w' := by
  obtain ⟨hx0, hx1⟩ := hx
  obtain ⟨hy0, hy1⟩ := hy
  go_enter Try.func71, Try.ntmps71
  go_wp2
  go_ret
  exact ⟨rfl, rfl⟩

/-- The closure that paints a pattern. -/
theorem paint1_any (F : FuncId) (b : Bool) (g f : Int) (hg : 0 ≤ g ∧ g < 6) (hf : 0 ≤ f ∧ f < 6) (bF bf bg : Nat) (w : World)
    (hcf : ∀ args w, (callFunc F args).run Try.prog w = .ok (.enter F args) w) (x y : Int)
    (hF : ∀ w, Calls Try.prog F #[.int .i64 x, .int .i64 y] w fun e w' => e = .returned (.bool b) ∧ w = w')
    (h0 : w.heap[bF]? = some (.cells #[.func (.func F) #[] #[]] 88 (0, 0))) (h1 : w.heap[bf]? = some (.cells #[.int .i64 f] 2 (0, 0))) (h2 : w.heap[bg]? = some (.cells #[.int .i64 g] 2 (0, 0))) :
    Calls Try.prog 82 #[.int .i64 x, .int .i64 y, .pointer (some ⟨bF, 0, none⟩), .pointer (some ⟨bf, 0, none⟩), .pointer (some ⟨bg, 0, none⟩)] w fun e w' => e = .returned (.int .u8 (pick2 b f g)) ∧ Grown w w' := by
  obtain ⟨hg0, hg1⟩ := hg
  obtain ⟨hf0, hf1⟩ := hf
  have c0 := cell_of_one h0
  have c1 := cell_of_one h1
  have c2 := cell_of_one h2
  have HF := hid hF
  clear h0 h1 h2 hF
  cases b
  · go_enter Try.func82, Try.ntmps82
    go_wp2_with fail
    refine (HF.out _).mono ?_
    rintro e w' ⟨rfl, rfl⟩
    go_wp2_with fail
    go_ret
    exact ⟨rfl, Grown.refl _⟩
  · go_enter Try.func82, Try.ntmps82
    go_wp2_with fail
    refine (HF.out _).mono ?_
    rintro e w' ⟨rfl, rfl⟩
    go_wp2_with fail
    go_ret
    exact ⟨rfl, Grown.refl _⟩

theorem built_flag : Try.prog.built 32 [] = some (byteCells zeros24) := by kernel_rfl

theorem patternOf_any (F : FuncId) (fig : Int → Int → Bool) (g f : Int) (w : World)
    (hcf : ∀ args w, (callFunc F args).run Try.prog w = .ok (.enter F args) w)
    (hF : ∀ i : Nat, i < 24 → ∀ w, Calls Try.prog F #[.int .i64 ((i : Int) % 6), .int .i64 ((i : Int) / 6)] w fun e w' => e = .returned (.bool (fig ((i : Int) % 6) ((i : Int) / 6))) ∧ w = w') :
    Calls Try.prog 68 #[.int .i64 g, .int .i64 f, .func (.func F) #[] #[]] w fun e w' => e = .returned (.tuple #[.agg (byteCells (patFlag fig g f)), .int .i64 (patCode g f)]) ∧ Grown w w' := by
  have HF := hid hF
  have HCF := hid hcf
  clear hF hcf
  cases hg : colourB g
  · have e1 : patFlag fig g f = zeros24 := by simp [patFlag, hg]
    have e2 : patCode g f = 2 := by simp [patCode, hg]
    rw [e1, e2]
    clear e1 e2 HF HCF
    go_enter Try.func68, Try.ntmps68
    go_wp2_with (first | (go_at_call 62; refine (isColour_any _ _).mono ?_; rintro e w' ⟨rfl, rfl⟩) | (refine wpList_build_to rfl 32 rfl built_flag ?_) | (refine wpList_store_bytes rfl 32 _ _ rfl _ zeros24 zeros24 rfl rfl _ 24 (heap_new (by simp)) (by kernel_rfl) rfl rfl ?_))
    refine bodyPost_ret (results_bytes2 (by rfl) _ _ _ _ _ _ _ _ rfl rfl (heap_row_set (heap_new (by simp))) Try.underlying32 (by kernel_rfl) rfl) rfl ⟨rfl, ?_⟩
    exact Grown_setRow (((((Grown.refl _).alloc _ _).alloc _ _).alloc _ _).alloc _ _) (by omega) _
  · cases hf : colourB f
    · have e1 : patFlag fig g f = zeros24 := by simp [patFlag, hf]
      have e2 : patCode g f = 2 := by simp [patCode, hf]
      rw [e1, e2]
      clear e1 e2 HF HCF
      go_enter Try.func68, Try.ntmps68
      go_wp2_with (first | (go_at_call 62; refine (isColour_any _ _).mono ?_; rintro e w' ⟨rfl, rfl⟩) | (refine wpList_build_to rfl 32 rfl built_flag ?_) | (refine wpList_store_bytes rfl 32 _ _ rfl _ zeros24 zeros24 rfl rfl _ 24 (heap_new (by simp)) (by kernel_rfl) rfl rfl ?_))
      refine bodyPost_ret (results_bytes2 (by rfl) _ _ _ _ _ _ _ _ rfl rfl (heap_row_set (heap_new (by simp))) Try.underlying32 (by kernel_rfl) rfl) rfl ⟨rfl, ?_⟩
      exact Grown_setRow (((((Grown.refl _).alloc _ _).alloc _ _).alloc _ _).alloc _ _) (by omega) _
    · have e1 : patFlag fig g f = (List.range 24).map (patCol fig g f) := by simp [patFlag, hf, hg]
      have e2 : patCode g f = 0 := by simp [patCode, hf, hg]
      rw [e1, e2]
      clear e1 e2
      have HG := hid (colourB_true hg)
      have HFF := hid (colourB_true hf)
      go_enter Try.func68, Try.ntmps68
      go_wp2_with (first | (go_at_call 62; refine (isColour_any _ _).mono ?_; rintro e w' ⟨rfl, rfl⟩) | fail)
      have hb0 : Hid (((((w.alloc (.cells #[.int .i64 g] 2)).alloc (.cells #[.int .i64 f] 2)).alloc (.cells #[.func (.func F) #[] #[]] 88)).alloc (.cells (byteCells zeros24) 32)).heap[w.heap.size]? = some (.cells #[.int .i64 g] 2 (0, 0))) := hid (heap_kept (heap_kept (heap_kept (heap_new rfl))))
      have hb1 : Hid (((((w.alloc (.cells #[.int .i64 g] 2)).alloc (.cells #[.int .i64 f] 2)).alloc (.cells #[.func (.func F) #[] #[]] 88)).alloc (.cells (byteCells zeros24) 32)).heap[w.heap.size + 1]? = some (.cells #[.int .i64 f] 2 (0, 0))) := hid (heap_kept (heap_kept (heap_new (by simp))))
      have hb2 : Hid (((((w.alloc (.cells #[.int .i64 g] 2)).alloc (.cells #[.int .i64 f] 2)).alloc (.cells #[.func (.func F) #[] #[]] 88)).alloc (.cells (byteCells zeros24) 32)).heap[w.heap.size + 1 + 1]? = some (.cells #[.func (.func F) #[] #[]] 88 (0, 0))) := hid (heap_kept (heap_new (by simp)))
      have hb3 : Hid (((((w.alloc (.cells #[.int .i64 g] 2)).alloc (.cells #[.int .i64 f] 2)).alloc (.cells #[.func (.func F) #[] #[]] 88)).alloc (.cells (byteCells zeros24) 32)).heap[w.heap.size + 1 + 1 + 1]? = some (.cells (byteCells zeros24) 32 (0, 0))) := hid (heap_new (by simp))
      have gw : Hid (Grown w ((((w.alloc (.cells #[.int .i64 g] 2)).alloc (.cells #[.int .i64 f] 2)).alloc (.cells #[.func (.func F) #[] #[]] 88)).alloc (.cells (byteCells zeros24) 32))) := hid (((((Grown.refl _).alloc _ _).alloc _ _).alloc _ _).alloc _ _)
      refine (painted_any 82 _ (patCol fig g f) _ (callFunc_enter Try.func82 (by kernel_rfl) (by kernel_rfl)) ?_).mono ?_
      · intro i hi wr hg1
        exact paint1_any F _ g f HG.out HFF.out _ _ _ wr HCF.out _ _ (HF.out i hi) (heap_grown hg1 hb2.out) (heap_grown hg1 hb1.out) (heap_grown hg1 hb0.out)
      · rintro e w1 ⟨rfl, g1⟩
        have H3 := hid (heap_grown g1 hb3.out)
        have G1 := hid (Grown_trans gw.out g1)
        clear g1 hb0 hb1 hb2 hb3 gw
        go_wp2_with (refine wpList_store_bytes rfl 32 _ _ rfl _ ((List.range 24).map (patCol fig g f)) zeros24 rfl rfl _ 24 H3.out (by kernel_rfl) (by simp) rfl ?_)
        refine bodyPost_ret (results_bytes2 (by rfl) _ _ _ _ _ _ _ _ rfl rfl (heap_row_set H3.out) Try.underlying32 (by kernel_rfl) (by simp)) rfl ⟨rfl, ?_⟩
        exact Grown_setRow G1.out (by omega) _
end Go.Proofs.Ytflolmjgkmmllaa
