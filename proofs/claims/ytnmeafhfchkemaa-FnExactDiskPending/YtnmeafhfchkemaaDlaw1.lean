/-
  Small facts for the walks of the laws that take numbers besides a disk. By an AI agent.
-/
import Derived.Test.YtnmeafhfchkemaaDlaw0
namespace Go.Proofs.Ytnmeafhfchkemaa
open Go.ChangeShapes Go.WideShapes Go.ChangeAt Go.RowKit Go.Deep
set_option linter.unusedVariables false
/-- v owns the numbers K, in a block from lo up to hi. -/
def OwnsI (w : World) (lo hi : Nat) (v : Value) (K : List Int) : Prop := w.ownsRow lo 3 1 v K.length (cellsI K) ∧ ∀ k, v.ownBlock = some k → k < hi
theorem OwnsI.below {w w' : World} {lo hi : Nat} {v : Value} {K : List Int} (h : OwnsI w lo hi v K) (hb : Below w.heap.size w w') : OwnsI w' lo hi v K := ⟨own_below h.1 hb, h.2⟩
theorem OwnsI.turned {w w' : World} {lo hi lo' hi' : Nat} {v : Value} {K : List Int} (h : OwnsI w lo hi v K) (ht : Turned lo' hi' w w') (hd : hi ≤ lo' ∨ hi' ≤ lo) : OwnsI w' lo hi v K := ⟨own_turned h.1 ht h.2 hd, h.2⟩
theorem OwnsI.drew {w : World} {lo hi : Nat} {v : Value} {K : List Int} (h : OwnsI w lo hi v K) : OwnsI w.drew lo hi v K := h
theorem OwnsI.mk {w : World} {lo hi : Nat} {v : Value} {K : List Int} (h : w.ownsRow lo 3 1 v K.length (cellsI K)) (hh : w.heap.size ≤ hi) : OwnsI w lo hi v K := ⟨h, fun k e => by have := (h.lt k e).2; omega⟩
theorem OwnsI.lit {w : World} {lo hi : Nat} {v : Value} {K : List Int} (h : OwnsI w lo hi v K) : ∃ a c, v = .slice a K.length c := by
  obtain ⟨a, c, e, _⟩ := own_src h.1
  exact ⟨a, c, e⟩
theorem OwnsI.src {w : World} {lo hi : Nat} {a : Option Addr} {c : Nat} {K : List Int} (h : OwnsI w lo hi (.slice a K.length c) K) : Src w a (cellsI K) := by
  obtain ⟨a', c', e, s, _⟩ := own_src h.1
  cases e
  exact s
theorem OwnsI.mono {w : World} {lo hi lo' hi' : Nat} {v : Value} {K : List Int} (h : OwnsI w lo hi v K) (hl : lo' ≤ lo) (hh : hi ≤ hi') : OwnsI w lo' hi' v K := ⟨own_mono h.1 hl, fun k e => Nat.lt_of_lt_of_le (h.2 k e) hh⟩
end Go.Proofs.Ytnmeafhfchkemaa
