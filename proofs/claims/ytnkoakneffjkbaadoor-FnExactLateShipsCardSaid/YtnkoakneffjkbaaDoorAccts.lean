/- The accounts with which a story can go on: the program's function. -/
import Derived.Test.YtnkoakneffjkbaaDoorAcct
import Derived.Test.YtnkoakneffjkbaaDoorStillMid
import Derived.Deep.DeepCutAuto
namespace Go.Proofs.YtnkoakneffjkbaaDoor
set_option linter.unusedVariables false
open Go.RowKit
/-- Two logs that lie where they lie. -/
structure Logs2 (w : World) (a b : Option Addr) (n m : Nat) (es fs : List En) : Prop where
  fst : CellsOf w a (enCells es)
  snd : CellsOf w b (enCells fs)
  n_ : n = es.length
  m_ : m = fs.length
  n60 : n ≤ 1048576
  m60 : m ≤ 1048576
theorem Logs2.gr {W w : World} {a b : Option Addr} {n m : Nat} {es fs : List En} (h : Logs2 W a b n m es fs) (g : Gr W w) : Logs2 w a b n m es fs := ⟨h.fst.gr g, h.snd.gr g, h.n_, h.m_, h.n60, h.m60⟩
def sidesC (a b : Option Addr) (n m ca cb : Nat) : Array Value := #[.slice a n ca, .slice b m cb]
def sdO (a b : Option Addr) (n m ca cb : Nat) : Obj := .cells #[.slice a n ca, .slice b m cb] 67
theorem news_ac {w : World} {x : Value} {T : TypeId} {fr : Nat × Nat} {b : Nat} (h : w.heap[b]? = some (.cells #[x] T fr)) : ∀ j u, [x][j]? = some u → w.cell? ((⟨b, 0, none⟩ : Addr).add j) = some u := by
  intro j u hu
  rw [Addr.add_mid, Nat.zero_add, cell_of_row w b j _ T fr h]
  simpa using hu
theorem rangeAt_vals {w : World} {b : Nat} {vs : List Value} {t : TypeId} {fr : Nat × Nat} (h : w.heap[b]? = some (.cells vs.toArray t fr)) : w.rangeAt b 0 vs := by
  intro j v hv
  rw [Nat.zero_add, cell_of_row w b j _ t fr h]
  simpa using hv
end Go.Proofs.YtnkoakneffjkbaaDoor
