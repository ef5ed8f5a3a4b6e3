
/-
  TreePairs of both. By an AI agent.
-/
import Derived.Test.YtmpaophegdeokaaTr4
import Derived.Test.YtmpaophegdeokaaTr2
namespace Go.Proofs.Ytmpaophegdeokaa
open Go.ChangeShapes Go.WideShapes Go.ChangeAt Go.RowKit Go.Deep
set_option linter.unusedVariables false
set_option maxRecDepth 100000
/-- What TreePairs answers. -/
def pairsA (H : List NM) (root : Int) : List PM × Int := match treeF H root with
  | none => ([], 1)
  | some s => (s.P, 0)
theorem own_nilP (w : World) (base : Nat) : w.ownsRow base 34 2 (.slice none 0 0) 0 (cellsP []) := ⟨rfl, .inl ⟨rfl, rfl⟩⟩
end Go.Proofs.Ytmpaophegdeokaa
