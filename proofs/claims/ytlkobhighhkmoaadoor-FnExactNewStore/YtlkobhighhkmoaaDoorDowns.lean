
/-
  Contracts of the specification's helpers that copy disks. By an AI agent.
-/
import Derived.Test.YtlkobhighhkmoaaDoorDown
namespace Go.Proofs.YtlkobhighhkmoaaDoor
open Go.ChangeShapes Go.WideShapes Go.ChangeAt Go.RowKit Go.Deep
set_option linter.unusedVariables false

end Go.Proofs.YtlkobhighhkmoaaDoor
