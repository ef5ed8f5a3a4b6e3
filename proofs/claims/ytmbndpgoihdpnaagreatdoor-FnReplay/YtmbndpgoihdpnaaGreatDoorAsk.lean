
/-
  What is asked ahead of a key. By an AI agent.
-/
import Derived.Test.YtmbndpgoihdpnaaGreatDoorPairGeti
namespace Go.Proofs.YtmbndpgoihdpnaaGreatDoor
open Go.ChangeShapes Go.WideShapes Go.ChangeAt Go.RowKit Go.Deep
set_option linter.unusedVariables false
set_option maxRecDepth 100000

end Go.Proofs.YtmbndpgoihdpnaaGreatDoor
