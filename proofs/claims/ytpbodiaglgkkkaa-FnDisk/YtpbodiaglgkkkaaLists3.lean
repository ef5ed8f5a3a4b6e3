
/-
  Contracts of the helpers on slices of writes: sizes, copies, comparisons, marks. By an AI agent.
-/
import Derived.Test.YtpbodiaglgkkkaaBoxes
namespace Go.Proofs.Ytpbodiaglgkkkaa
open Go.ChangeShapes Go.WideShapes Go.ChangeAt Go.RowKit Go.Deep
set_option linter.unusedVariables false

def mkQ (k n : Nat) : List (Int × ByteArray) := (List.range n).map fun i => (((k + i * 2 : Nat) : Int), markT (k + i * 2 + 1))
theorem mkQ_length (k n : Nat) : (mkQ k n).length = n := by simp [mkQ]
theorem mkQ_get (k n i : Nat) (h : i < n) : (mkQ k n).getD i q0 = (((k + i * 2 : Nat) : Int), markT (k + i * 2 + 1)) := by
  rw [List.getD_eq_getElem?_getD]; simp [mkQ, h]
theorem infoQ : (Try.prog.info? 47).map (fun i => (i.zero, i.size, i.bytes)) = some (some (.agg #[.int .i64 0, .string ⟨#[]⟩]), 2, 24) := by kernel_rfl
theorem run_make_Q (n : Nat) (hn : n ≤ 1048576) (w : World) : (Instr.makeSlice 24 (.int .i64 (n : Int)) (.int .i64 (n : Int))).run Try.prog w = .ok (.slice (some ⟨w.heap.size, 0, none⟩) n n) (w.alloc (.cells (madeCells #[.int .i64 0, .string ⟨#[]⟩] (n * 2)) 47)) :=
  run_make_rows 24 47 (.agg #[.int .i64 0, .string ⟨#[]⟩]) 2 24 n Try.underlying24 infoQ (by omega) hn w
end Go.Proofs.Ytpbodiaglgkkkaa
