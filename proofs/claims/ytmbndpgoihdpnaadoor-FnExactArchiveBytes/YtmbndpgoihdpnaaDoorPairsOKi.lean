
/-
  The contract of the program's PairsOK. By an AI agent.
-/
import Derived.Test.YtmbndpgoihdpnaaDoorPairsOK
namespace Go.Proofs.YtmbndpgoihdpnaaDoor
open Go.ChangeShapes Go.WideShapes Go.ChangeAt Go.RowKit Go.Deep
set_option linter.unusedVariables false

theorem below_drewN {B : Nat} {a w : World} (h : Below B a w) (n : Nat) : Below B a (w.drewN n) := Below.drewN' h n
end Go.Proofs.YtmbndpgoihdpnaaDoor
