
/-
  What a right superblock is: the specification's SuperOK. By an AI agent.
-/
import Derived.Test.YtlkobhighhkmoaaDoorSok
namespace Go.Proofs.YtlkobhighhkmoaaDoor
open Go.ChangeShapes Go.WideShapes Go.ChangeAt Go.RowKit Go.Deep
set_option linter.unusedVariables false
set_option maxRecDepth 100000


end Go.Proofs.YtlkobhighhkmoaaDoor
