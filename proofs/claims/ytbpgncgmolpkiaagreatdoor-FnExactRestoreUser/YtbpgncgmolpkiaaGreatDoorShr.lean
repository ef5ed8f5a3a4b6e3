
/-
  The library's variables, out of any row that lists them so. By an AI agent.
-/
import Derived.Test.YtbpgncgmolpkiaaGreatDoorShq
namespace Go.Proofs.YtbpgncgmolpkiaaGreatDoor
theorem gl_row {W : World} {l : List (String × DataW Unit)} (e : l = Rows.fnExactRenameFolderRow.laid) (hS : W.ShapedOpen Tryz.prog) (h : laidMetH Tryz.prog l W) : Gl W ∧ 8 ≤ W.heap.size := gl_of hS (by rw [← e]; exact h)
end Go.Proofs.YtbpgncgmolpkiaaGreatDoor
