/-
  Closed facts of the row of FnExactFlagsText.
  By an AI agent.
-/
import Derived.Test.YtkkfeaajcbnlnaaMem
namespace Go.Proofs.Ytkkfeaajcbnlnaa.fnExactFlagsText
open Go.ChangeShapes Go.WideShapes Go.ChangeAt Go.WideMaps Go.WideElems Go.RowKit Go.Deep
open Go.ChangeMaps (open_string shut_string)
set_option linter.unusedVariables false

set_option maxHeartbeats 8000000 in
theorem closed : joinedFacts Try.prog 5 Try.f5 Rows.fnExactFlagsTextSpec Rows.fnExactFlagsTextRow = true := by
  unfold joinedFacts
  repeat' (with_reducible refine Bool.and_eq_true_iff.2 ⟨?_, ?_⟩)
  all_goals (as_aux_lemma => kernel_rfl)
theorem inst : Try.f5.isInstance Try.prog Rows.fnExactFlagsTextRow.origin Rows.fnExactFlagsTextRow.targs := of_decide_eq_true (by kernel_rfl)
theorem wrap : Try.f5.isWrapper Try.prog Rows.fnExactFlagsTextRow.wrapper Rows.fnExactFlagsTextRow.mainSum := by
  unfold Func.isWrapper; first | (rw [if_pos (by decide +kernel)]; kernel_rfl) | (rw [if_neg (by decide +kernel)]; exact ⟨rfl, rfl⟩)
theorem named : Try.prog.funcNamed Rows.fnExactFlagsTextRow.func = some 5 := by kernel_rfl
end Go.Proofs.Ytkkfeaajcbnlnaa.fnExactFlagsText
