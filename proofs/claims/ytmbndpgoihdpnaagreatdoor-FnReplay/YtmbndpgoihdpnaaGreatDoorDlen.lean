
/-
  How many differences there may be. By an AI agent.
-/
import Derived.Test.YtmbndpgoihdpnaaGreatDoorDifo
namespace Go.Proofs.YtmbndpgoihdpnaaGreatDoor
open Go.ChangeShapes Go.WideShapes Go.ChangeAt Go.RowKit Go.Deep
set_option linter.unusedVariables false
set_option maxRecDepth 100000

theorem diffM_len (a b : List PM) : (diffM a b).length ≤ a.length + b.length := by
  induction a, b using diffM.induct with
  | case1 => simp [diffM]
  | case2 x a ih => rw [diffM]; simp at ih ⊢; omega
  | case3 y b ih => rw [diffM]; simp at ih ⊢; omega
  | case4 x a y b h ih => rw [diffM, if_pos h]; simp at ih ⊢; omega
  | case5 x a y b h h2 ih => rw [diffM, if_neg h, if_pos h2]; simp at ih ⊢; omega
  | case6 x a y b h h2 ih =>
    rw [diffM, if_neg h, if_neg h2, List.length_append]
    split <;> simp at ih ⊢ <;> omega
end Go.Proofs.YtmbndpgoihdpnaaGreatDoor
