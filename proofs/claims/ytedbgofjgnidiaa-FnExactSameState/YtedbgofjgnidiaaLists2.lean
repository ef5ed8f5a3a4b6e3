
/-
  Contracts of the helpers that write marks into slices of strings and of integers, and that look whether they are held. By an AI agent.
-/
import Derived.Test.YtedbgofjgnidiaaLists1
namespace Go.Proofs.Ytedbgofjgnidiaa
open Go.ChangeShapes Go.WideShapes Go.ChangeAt Go.RowKit Go.Deep
set_option linter.unusedVariables false

def mkS (k n : Nat) : List ByteArray := (List.range n).map fun i => markT (k + i)
def mkI (k n : Nat) : List Int := (List.range n).map fun i => ((k + i : Nat) : Int)
theorem mkS_length (k n : Nat) : (mkS k n).length = n := by simp [mkS]
theorem mkI_length (k n : Nat) : (mkI k n).length = n := by simp [mkI]
theorem mkS_get (k n i : Nat) (h : i < n) : (mkS k n).getD i e0 = markT (k + i) := by
  rw [List.getD_eq_getElem?_getD]; simp [mkS, h]
theorem mkI_get (k n i : Nat) (h : i < n) : (mkI k n).getD i 0 = ((k + i : Nat) : Int) := by
  rw [List.getD_eq_getElem?_getD]; simp [mkI, h]

end Go.Proofs.Ytedbgofjgnidiaa
