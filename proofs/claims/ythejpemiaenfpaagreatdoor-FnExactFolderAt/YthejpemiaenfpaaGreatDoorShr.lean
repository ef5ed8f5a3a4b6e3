
/-
  The library's variables, out of any row that lists them so. By an AI agent.
-/
import Derived.Test.YthejpemiaenfpaaGreatDoorShq
namespace Go.Proofs.YthejpemiaenfpaaGreatDoor
theorem gl_row {W : World} {l : List (String × DataW Unit)} (e : l = Rows.fnExactAddUserRow.laid) (hS : W.ShapedOpen Tryz.prog) (h : laidMetH Tryz.prog l W) : Gl W ∧ 8 ≤ W.heap.size := gl_of hS (by rw [← e]; exact h)
end Go.Proofs.YthejpemiaenfpaaGreatDoor
