
/-
  What a right backup is: the specification's BackupOK. By an AI agent.
-/
import Derived.Test.YtmbndpgoihdpnaaDoorBoks
import Derived.Test.YtmbndpgoihdpnaaDoorBokt
namespace Go.Proofs.YtmbndpgoihdpnaaDoor
open Go.ChangeShapes Go.WideShapes Go.ChangeAt Go.RowKit Go.Deep
set_option linter.unusedVariables false
set_option linter.unusedSimpArgs false
set_option maxRecDepth 100000

theorem specBackupOK (v : Value) (D : BM) (w : World) (hs : smallK D) (h : ReadsK w v D) :
    Calls Tryd.prog 30 #[v] w fun e w' => e = .returned (.bool (okK D)) ∧ Below w.heap.size w w' := by
  by_cases hz : D.F.size = 0
  · exact specBackupOKE v D w hs h hz
  · exact specBackupOKN v D w hs h hz

end Go.Proofs.YtmbndpgoihdpnaaDoor
