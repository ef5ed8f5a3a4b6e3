
/-
  Parts of a difference: was, is, fits, diffOK, by the program. By an AI agent.
-/
import Derived.Test.YtkimjnjpfjeldaaDoorListsd
import Derived.Test.YtkimjnjpfjeldaaDoorPairsOKi
namespace Go.Proofs.YtkimjnjpfjeldaaDoor
open Go.ChangeShapes Go.WideShapes Go.ChangeAt Go.RowKit Go.Deep
set_option linter.unusedVariables false
set_option maxRecDepth 100000

/-- One side of a difference. -/
def sideB (v : ByteArray) (t : Bool) : Bool := if t = true then decide (v.size ≤ 90) else decide (v.size = 0)
def formB (d : MDf) : Bool := keyB d.1 && sideB d.2.1 d.2.2.2.1 && sideB d.2.2.1 d.2.2.2.2 && (d.2.2.2.1 || d.2.2.2.2)
theorem toList_injF {x y : ByteArray} (h : x.toList = y.toList) : x = y := by
  rw [ByteArray.toList_eq, ByteArray.toList_eq] at h
  exact bytes_inj h
theorem size0 {v : ByteArray} (h : v.size = 0) : v = ⟨#[]⟩ := by
  apply bytes_inj
  cases v with
  | mk d =>
    have h2 : d.size = 0 := h
    simp at h2 ⊢
    exact h2
theorem formB_of (k o n : ByteArray) (p q : Bool) : formB (k, o, n, p, q) = (keyB k && sideB o p && sideB n q && (p || q)) := rfl
end Go.Proofs.YtkimjnjpfjeldaaDoor
