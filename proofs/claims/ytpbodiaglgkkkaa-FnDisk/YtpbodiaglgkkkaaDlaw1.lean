
/-
  Small facts for the walks of the laws that take numbers besides a disk. By an AI agent.
-/
import Derived.Test.YtpbodiaglgkkkaaDlaw0
namespace Go.Proofs.Ytpbodiaglgkkkaa
open Go.ChangeShapes Go.WideShapes Go.ChangeAt Go.RowKit Go.Deep
set_option linter.unusedVariables false
end Go.Proofs.Ytpbodiaglgkkkaa
